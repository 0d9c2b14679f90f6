/-
  Two ends that begin; what keeps a pair.
-/
import Derived.Test.YtakckdeadchflabDoorLinkTrace
namespace Go.Proofs.YtakckdeadchflabDoor
open Go.RowKit

theorem zeroLink (w : World) : (zeroValue 40).run Tryd.prog w = .ok (.agg #[.int .i64 0, .int .i64 0, .int .i64 0, .int .i64 0, .int .i64 0, .int .i64 0, .int .i64 0, .int .i64 0, .int .i64 0, .int .i64 0, .int .i64 0, .slice none 0 0]) w := by kernel_rfl
theorem heap_alloc_new' (w : World) (o : Obj) : (w.alloc o).heap[w.heap.size]? = some o := heap_alloc_new w o

set_option maxRecDepth 100000 in
set_option maxHeartbeats 2000000 in
theorem lnew_in (S M : Int) (w : World) (h1 : ¬ S < 40) (h2 : ¬ 255 < S) (h3 : ¬ M < 1) (h4 : ¬ 255 < M) :
    Calls Tryd.prog 12 #[.int .i64 S, .int .i64 M] w fun e w' => ∃ B, e = .returned (.tuple #[.pointer (some ⟨B, 0, none⟩), .nilIface]) ∧ Lk w' B (lkC S M S M 0 0 0 255 0 0 0 nilV) ∧ w.heap.size ≤ B ∧ Below w.heap.size w w' := by
  have hz := zeroPol
  have hzl := zeroLink
  have hN := new_in S M w h1 h2 h3 h4
  clear h1 h2 h3 h4
  go_enter Tryd.func12, Tryd.ntmps12
  go_wp2_with (fail)
  refine hN.mono ?_
  rintro e w1 ⟨rfl, hb⟩
  have hs := hb.size
  have hb2 := (hb.alloc hb.size (.cells #[.int .i64 S, .int .i64 M] 38))
  have hb3 := below_chain hb2 (below_alloc _ (.cells (lkC S M S M 0 0 0 255 0 0 0 nilV) 40))
  have hn := heap_alloc_new' (w1.alloc (.cells #[.int .i64 S, .int .i64 M] 38)) (.cells (lkC S M S M 0 0 0 255 0 0 0 nilV) 40)
  have e1 : (w1.alloc (.cells #[.int .i64 S, .int .i64 M] 38)).heap.size = w1.heap.size + 1 := by simp
  rw [e1] at hn
  have HN : Hid _ := hn
  have HB : Hid _ := hb3
  clear hn hb3 hN
  go_wp2_with (fail)
  go_ret2
  exact ⟨w1.heap.size + 1, rfl, HN.out, by omega, HB.out⟩
set_option maxRecDepth 100000 in
set_option maxHeartbeats 2000000 in
theorem lnew_out (S M : Int) (w : World) (h : S < 40 ∨ 255 < S ∨ M < 1 ∨ 255 < M) :
    Calls Tryd.prog 12 #[.int .i64 S, .int .i64 M] w fun e w' => e = .returned (.tuple #[.pointer none, .iface 46 (.int .i64 1)]) ∧ Below w.heap.size w w' := by
  have hz := zeroPol
  have hN := new_out S M w h
  clear h
  go_enter Tryd.func12, Tryd.ntmps12
  go_wp2_with (fail)
  refine hN.mono ?_
  rintro e w1 ⟨rfl, hb⟩
  have hb2 := (hb.alloc hb.size (.cells #[.int .i64 0, .int .i64 0] 38))
  clear hN
  go_wp2_with (fail)
  go_ret2
  exact ⟨rfl, hb2⟩


def fresh (S M : Int) : LS := ⟨S, M, S, M, 0, 0, 0, 255, 0, 0, 0⟩
def started (S M : Int) : LS := ⟨S, M, S, M, 0, 0, 1, 255, 0, 0, 0⟩
theorem s1 (S M : Int) : comeS (fresh S M) 2 = started S M := by kernel_rfl
theorem u1 (S M : Int) : comeO (fresh S M) 2 (0, 0, []) = [] := by kernel_rfl
theorem s2 (S M : Int) : comeS (started S M) 0 = asking S M 1 := by kernel_rfl
theorem u2 (S M : Int) : comeO (started S M) 0 (0, 0, []) = [reqP S M 1] := by kernel_rfl
def down (S M ow : Int) : LS := ⟨S, M, S, M, S, M, 1, 255, 4, 3, ow⟩
theorem s3 (S M P ow : Int) : comeS (opened S M P ow) 1 = down S M ow := by kernel_rfl
theorem u3 (S M P ow : Int) : comeO (opened S M P ow) 1 (0, 0, []) = [] := by kernel_rfl
theorem s4 (S M ow : Int) : comeS (down S M ow) 0 = ⟨S, M, S, M, S, M, 6, 255, 4 - 1, 3, (ow + 1) % 256⟩ := by kernel_rfl
theorem u4 (S M ow : Int) : comeO (down S M ow) 0 (0, 0, []) = [reqP S M ((ow + 1) % 256)] := by kernel_rfl
theorem s5 (S M P ow : Int) : comeS (opened S M P ow) 3 = ⟨S, M, S, M, S, M, 4, P, 4 - 1, 3, (ow + 1) % 256⟩ := by kernel_rfl
theorem u5 (S M P ow : Int) : comeO (opened S M P ow) 3 (0, 0, []) = [(5, (ow + 1) % 256, [])] := by kernel_rfl

set_option maxRecDepth 100000 in
set_option maxHeartbeats 2000000 in
theorem end_rep (Y : Nat → Prop) (S M : Int) (w : World) (hT : TabOk w) (hs : Nums S M) (hY : ∀ k, Y k → k < w.heap.size) :
    Calls Tryd.prog 5 #[.int .i64 S, .int .i64 M] w fun e w' => ∃ B v ps, e = .returned (.tuple #[.pointer (some ⟨B, 0, none⟩), .bool true]) ∧ Rep w' B (fun k => Y k ∨ k = B) (asking S M 1) v ps ∧ ps.map PV.abs = [reqP S M 1] ∧ w.heap.size ≤ B ∧ (∀ k, v.ownBlock = some k → w.heap.size ≤ k) ∧ Below w.heap.size w w' := by
  have hN := lnew_in S M w (by have := hs.a1; omega) (by have := hs.a2; omega) (by have := hs.b1; omega) (by have := hs.b2; omega)
  have h0 := hT.lt
  go_enter Tryd.func5, Tryd.ntmps5
  go_wp2_with (fail)
  refine hN.mono ?_
  rintro e w1 ⟨B, rfl, hL, hB, hb⟩
  have hT1 := hT.below hb
  have R1 : Rep w1 B (fun k => Y k ∨ k = B) (fresh S M) nilV [] := ⟨hL, Row.nil _ 3, fun g hg => by simp [Value.ownBlock] at hg, .inr rfl, fun k hk => by
    rcases hk with hk | rfl
    · exact Nat.lt_of_lt_of_le (hY k hk) hb.size
    · exact hL.lt, fun p hp => by simp at hp⟩
  have D1 := do_rep 2 (by simp) B _ (fresh S M) nilV [] w1 hT1 R1 ⟨show (0 : Int) ≤ 0 by decide, show (0 : Int) ≤ 255 by decide, show (-100 : Int) ≤ 0 by decide, show (0 : Int) ≤ 100 by decide⟩ (by simp) (show (stepI 0 2).2.2 = 0 by decide +kernel)
  rw [s1, u1] at D1
  clear R1 hN hL
  go_wp2_with (fail)
  refine D1.mono ?_
  rintro e w2 ⟨rfl, ⟨v2, q2, R2, o2, hv2⟩, K2⟩
  have hq2 : q2 = [] := List.map_eq_nil_iff.1 o2
  subst hq2
  have hvn : ∀ k, v2.ownBlock = some k → w.heap.size ≤ k := fun k hk => by
    rcases hv2 k hk with e | e
    · simp [Value.ownBlock] at e
    · exact Nat.le_trans hb.size e
  have hT2 := K2.tab hT1 (by omega) (by simp [Value.ownBlock])
  have hb2 : Below w.heap.size w w2 := Kept.below hb K2 hB (fun i e => by simp [Value.ownBlock] at e)
  have D2 := do_rep 0 (by simp) B _ (started S M) v2 ([] ++ []) w2 hT2 R2 ⟨show (0 : Int) ≤ 0 by decide, show (0 : Int) ≤ 255 by decide, show (-100 : Int) ≤ 0 by decide, show (0 : Int) ≤ 100 by decide⟩ (by simp) (show (stepI 1 0).2.2 = 0 by decide +kernel)
  rw [s2, u2] at D2
  clear D1 R2 hT1
  go_wp2_with (fail)
  refine D2.mono ?_
  rintro e w3 ⟨rfl, ⟨v3, q3, R3, o3, hv3⟩, K3⟩
  have hb3 : Below w.heap.size w w3 := Kept.below hb2 K3 hB hvn
  have HE : Hid (Rep w3 B (fun k => Y k ∨ k = B) (asking S M 1) v3 q3) := R3
  have hv4 : ∀ k, v3.ownBlock = some k → w.heap.size ≤ k := fun k hk => by
    rcases hv3 k hk with e | e
    · exact hvn k e
    · exact Nat.le_trans hb2.size e
  clear D2 R3
  go_wp2_with (fail)
  go_ret2
  exact ⟨B, v3, q3, rfl, HE.out, o3, hB, hv4, hb3⟩
theorem Rep.widen {w w' : World} {B : Nat} {X X' : Nat → Prop} {s : LS} {v : Value} {ps : List PV} (h : Rep w B X s v ps) (hb : Below w.heap.size w w') (h1 : X' B) (h2 : ∀ k, X' k → k < w'.heap.size) (h3 : ∀ k, k < w.heap.size → X' k → X k) : Rep w' B X' s v ps := by
  have r := h.below hb
  refine ⟨r.lk, r.row, fun g hg hx => h.own g hg (h3 g (h.row.lt g hg) hx), h1, h2, fun p hp => ?_⟩
  have q := h.pk p hp
  have q2 := r.pk p hp
  exact ⟨q2.opt, q2.nil, q2.le, q2.few, fun k hk => by obtain ⟨a1, a2, a3⟩ := q.far k hk; exact ⟨fun e => a1 (h3 k a3 e), a2, Nat.lt_of_lt_of_le a3 hb.size⟩⟩
/-- The ticks of an end that waits for the end. -/
def tkm (x y P j : Int) : Nat → LS
  | 0 => stopping x y P j
  | 1 => ⟨x, y, x, y, x, y, 5, P, 0, 3 - 1, j⟩
  | 2 => ⟨x, y, x, y, x, y, 5, P, 0, 3 - 1 - 1, j⟩
  | _ => ⟨x, y, x, y, x, y, 3, 255, 0, 3 - 1 - 1 - 1, j⟩
theorem tkS0 (x y P j : Int) : tickS (tkm x y P j 0) = tkm x y P j 1 := by kernel_rfl
theorem tkS1 (x y P j : Int) : tickS (tkm x y P j 1) = tkm x y P j 2 := by kernel_rfl
theorem tkS2 (x y P j : Int) : tickS (tkm x y P j 2) = tkm x y P j 3 := by kernel_rfl
theorem tkS3 (x y P j : Int) (k : Nat) : tickS (tkm x y P j (k + 3)) = tkm x y P j (k + 3 + 1) := by kernel_rfl
theorem tkO0 (x y P j : Int) : tickO (tkm x y P j 0) = [] := by kernel_rfl
theorem tkO1 (x y P j : Int) : tickO (tkm x y P j 1) = [] := by kernel_rfl
theorem tkO2 (x y P j : Int) : tickO (tkm x y P j 2) = [] := by kernel_rfl
theorem tkO3 (x y P j : Int) (k : Nat) : tickO (tkm x y P j (k + 3)) = [] := by kernel_rfl
theorem tkm_S (x y P j : Int) : ∀ k : Nat, tickS (tkm x y P j k) = tkm x y P j (k + 1)
  | 0 => tkS0 x y P j
  | 1 => tkS1 x y P j
  | 2 => tkS2 x y P j
  | k + 3 => tkS3 x y P j k
theorem tkm_O (x y P j : Int) : ∀ k : Nat, tickO (tkm x y P j k) = []
  | 0 => tkO0 x y P j
  | 1 => tkO1 x y P j
  | 2 => tkO2 x y P j
  | k + 3 => tkO3 x y P j k
theorem tkm_b (x y P j : Int) (k : Nat) : (tkm x y P j k).ow = j ∧ (tkm x y P j k).lf = 0 ∧ -1000 ≤ (tkm x y P j k).wt ∧ (tkm x y P j k).wt ≤ 1000 := by
  match k with
  | 0 => exact ⟨rfl, rfl, show (-1000 : Int) ≤ 3 by decide, show (3 : Int) ≤ 1000 by decide⟩
  | 1 => exact ⟨rfl, rfl, show (-1000 : Int) ≤ 3 - 1 by decide, show (3 - 1 : Int) ≤ 1000 by decide⟩
  | 2 => exact ⟨rfl, rfl, show (-1000 : Int) ≤ 3 - 1 - 1 by decide, show (3 - 1 - 1 : Int) ≤ 1000 by decide⟩
  | _ + 3 => exact ⟨rfl, rfl, show (-1000 : Int) ≤ 3 - 1 - 1 - 1 by decide, show (3 - 1 - 1 - 1 : Int) ≤ 1000 by decide⟩
/-- a does something: the pair is kept. -/
theorem pair_a {w0 w w' : World} {N : Nat} {X : Nat → Prop} {Ba Bb : Nat} {sa sa' : LS} {va : Value} {pa : List PV} {sb : LS} {pb : List PV} {out : List APkt} (h : Pair w0 w N X Ba Bb sa va pa sb nilV pb) (hpb : pb = []) (hW : Went w w' Ba X sa' va pa out) :
    ∃ va' qs, Pair w0 w' N X Ba Bb sa' va' (pa ++ qs) sb nilV pb ∧ qs.map PV.abs = out := by
  obtain ⟨⟨v', qs, hR, ho, hv⟩, hK⟩ := hW
  subst hpb
  have hNw : N ≤ w.heap.size := Nat.le_trans h.size h.below.size
  have hab : va.ownBlock ≠ some Bb := fun e => h.a.own Bb e h.b.self
  refine ⟨v', qs, ⟨hR, ⟨h.b.lk.keep (hK.block Bb h.b.lk.lt h.ne.symm hab), Row.nil _ 3, h.b.own, h.b.self, fun k hk => Nat.lt_of_lt_of_le (h.b.old k hk) hK.size, fun p hp => by simp at hp⟩, h.ne, fun k hk => by simp [Value.ownBlock], fun p hp k hk => by simp [Value.ownBlock], fun k hk => ?_, h.bn, h.pos, h.ba, h.bb, hK.tab h.tab (by have := h.ba; have := h.pos; omega) (fun e => by have := h.an 0 e; have := h.pos; omega), h.below.trans (hK.belowN h.ba h.an hNw), h.size⟩, ho⟩
  rcases hv k hk with e | e
  · exact h.an k e
  · omega
/-- b does something. -/
theorem pair_b {w0 w w' : World} {N : Nat} {X : Nat → Prop} {Ba Bb : Nat} {sa : LS} {va : Value} {pa : List PV} {sb sb' : LS} {vb : Value} {pb : List PV} {out : List APkt} (h : Pair w0 w N X Ba Bb sa va pa sb vb pb) (hW : Went w w' Bb X sb' vb pb out) :
    ∃ vb' qs, Pair w0 w' N X Ba Bb sa va pa sb' vb' (pb ++ qs) ∧ qs.map PV.abs = out := by
  obtain ⟨⟨v', qs, hR, ho, hv⟩, hK⟩ := hW
  have hNw : N ≤ w.heap.size := Nat.le_trans h.size h.below.size
  have hba : vb.ownBlock ≠ some Ba := fun e => h.b.own Ba e h.a.self
  have hXb := h.b.self
  refine ⟨v', qs, ⟨⟨h.a.lk.keep (hK.block Ba h.a.lk.lt h.ne hba), h.a.row.keep hK.size (fun k hk => hK.block k (h.a.row.lt k hk) (fun e => h.a.own k hk (by rw [e]; exact hXb)) (h.c1 k hk)), h.a.own, h.a.self, fun k hk => Nat.lt_of_lt_of_le (h.a.old k hk) hK.size, fun p hp => ?_⟩, hR, h.ne, fun k hk e => ?_, fun p hp k hk e => ?_, h.an, fun k hk => ?_, h.pos, h.ba, h.bb, hK.tab h.tab (by have := h.bb; have := h.pos; omega) (fun e => by have := h.bn 0 e; have := h.pos; omega), h.below.trans (hK.belowN h.bb h.bn hNw), h.size⟩, ho⟩
  · have q := h.a.pk p hp
    exact ⟨q.opt.kept (cap := p.cap) (fun j hj => by obtain ⟨a1, a2, a3⟩ := q.far j hj; exact hK.block j a3 (fun e => a1 (by rw [e]; exact hXb)) (h.c2 p hp j hj)), q.nil, q.le, q.few, fun j hj => by obtain ⟨a1, a2, a3⟩ := q.far j hj; exact ⟨a1, a2, Nat.lt_of_lt_of_le a3 hK.size⟩⟩
  · rcases hv k e with e1 | e1
    · exact h.c1 k hk e1
    · have := h.a.row.lt k hk; omega
  · rcases hv k e with e1 | e1
    · exact h.c2 p hp k hk e1
    · have := ((h.a.pk p hp).far k hk).2.2; omega
  · rcases hv k hk with e | e
    · exact h.bn k e
    · omega
end Go.Proofs.YtakckdeadchflabDoor
