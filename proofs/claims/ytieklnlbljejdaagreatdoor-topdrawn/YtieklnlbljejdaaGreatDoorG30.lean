/-
  RtOn RtSend RtSend2
-/
import Derived.Test.YtieklnlbljejdaaGreatDoorG29
namespace Go.Proofs.YtieklnlbljejdaaGreatDoor
open Go.RowKit St
namespace Rt
set_option maxRecDepth 100000 in
set_option maxHeartbeats 8000000 in
theorem portOn_any (z : Zt) (r : RtM) (t hp : Int) (tx : ByteArray) (w : World) (h : RtR w z r) (hK : KOk r.K) :
 Calls Tryz.prog 153 #[.pointer (some ⟨z.R, 0, none⟩), .agg #[.int .i64 t, .int .i64 hp, .string tx]] w fun e w' => e = .returned (.tuple #[.int .i64 (bestV (onP r t hp)), .bool (onP r t hp).isSome]) ∧ Below w.heap.size w w' := by
 obtain ⟨hop, hhop⟩ : ∃ hop, (toH (hopsM r) t).getD HP.zero = hop := ⟨_, rfl⟩
 obtain ⟨ok, hok⟩ : ∃ ok, (toH (hopsM r) t).isSome = ok := ⟨_, rfl⟩
 have hho : ∀ W, Below w.heap.size w W → Calls Tryz.prog 64 #[.pointer (some ⟨z.R, 0, none⟩)] W fun e w' => ∃ b n c, e = .returned (.slice b n c) ∧ Below W.heap.size W w' ∧ (∀ W', Below w'.heap.size w' W' → Calls Tryz.prog 199 #[.slice b n c, .int .i64 t] W' fun e w2 => e = .returned (.tuple #[.agg #[.int .i64 hop.dst, .int .i64 hop.far, .int .i64 hop.nxt], .bool ok]) ∧ Below W'.heap.size W' w2) := by
  intro W hW
  refine (hopsR_any z r W (h.below hW) hK).mono ?_
  rintro e w1 ⟨b, c, rfl, hH, b1⟩
  refine ⟨b, _, c, rfl, b1, fun W' hW' => ?_⟩
  have := to_any b (hopsM r).length c (hopsM r) t W' (hH.below hW') (by have := hopsL_length (bothG (gridK r.K)) r.id.toNat; show (hopsL _ _).length ≤ _; omega)
  rw [hhop, hok] at this
  exact this
 have hto : Hid (∀ W, Below w.heap.size w W → Calls Tryz.prog 200 #[.pointer (some ⟨z.R, 0, none⟩), .int .i64 hop.nxt] W fun e w' => e = .returned (.tuple #[.int .i64 (bestV (bestP r.P hop.nxt r.n)), .bool (bestP r.P hop.nxt r.n).isSome]) ∧ Below W.heap.size W w') := fun W hW => portTo_any z r hop.nxt W (h.below hW)
 have hon : Hid (onP r t hp = if 1 ≤ hp ∧ ok = true then bestP r.P hop.nxt r.n else none) := by
  show _ = _
  unfold onP
  rw [← hok, ← hhop]
  by_cases h1 : 1 ≤ hp
  · rw [if_pos h1]
    cases toH (hopsM r) t <;> simp [h1]
  · rw [if_neg h1, if_neg (by simp [h1])]
 generalize bestP r.P hop.nxt r.n = bp at hto hon
 generalize onP r t hp = op at hon ⊢
 obtain ⟨d, f, x⟩ := hop
 simp only at hho hto
 have hRl := h.lt
 generalize z.R = RR at hho hto hRl ⊢
 clear h hhop hok
 obtain ⟨C, hC⟩ : ∃ C : Array Value, #[Value.int .i64 t, .int .i64 hp, .string tx] = C := ⟨_, rfl⟩
 have bm := below_alloc w (.cells #[.int .i64 t, .int .i64 hp, .string tx] 106)
 have hM0 : Blk (w.alloc (.cells #[.int .i64 t, .int .i64 hp, .string tx] 106)) w.heap.size #[.int .i64 t, .int .i64 hp, .string tx] 106 := Blk.new w _ _
 obtain ⟨W0, hW0⟩ : ∃ W0, w.alloc (.cells #[.int .i64 t, .int .i64 hp, .string tx] 106) = W0 := ⟨_, rfl⟩
 obtain ⟨N, hN⟩ : ∃ N, w.heap.size = N := ⟨_, rfl⟩
 have hbd : Below w.heap.size w W0.drew := by rw [← hW0]; exact below_drew bm
 have hMd : Blk W0.drew N #[.int .i64 t, .int .i64 hp, .string tx] 106 := by rw [← hW0, ← hN]; exact hM0.drew
 have HW0 : Hid _ := hW0
 have HN : Hid _ := hN
 clear hM0 bm hW0 hN hC C
 go_enter Tryz.func153, Tryz.ntmps153
 go_wp2_with (fail)
 rw [HW0.out, HN.out]
 go_cut [6, 7] (fun v6 v7 wx => ∃ Z : Nat, v6 = .pointer (some ⟨Z, 0, none⟩) ∧ v7 = .bool ok ∧ wx.cell? ⟨Z, 2, none⟩ = some (.int .i64 x) ∧ Below w.heap.size w wx ∧ wx.cell? ⟨N, 1, none⟩ = some (.int .i64 hp))
 case first =>
  have F0 : W0.drew.cell? ⟨N, 0, none⟩ = some (.int .i64 t) ∧ W0.drew.cell? ⟨N, 1, none⟩ = some (.int .i64 hp) := ⟨hMd.cell 0, hMd.cell 1⟩
  have Nl : N < W0.drew.heap.size := hMd.lt
  have ba : Below W0.drew.heap.size W0.drew (W0.alloc (.cells #[.int .i64 0, .int .i64 0, .int .i64 0] 98)).drew := by
   have b' := below_drew (below_alloc W0 (.cells #[.int .i64 0, .int .i64 0, .int .i64 0] 98))
   exact ⟨b'.os, b'.tape, b'.output, b'.size, b'.block⟩
  have hn3 : Blk (W0.alloc (.cells #[.int .i64 0, .int .i64 0, .int .i64 0] 98)).drew W0.heap.size #[.int .i64 0, .int .i64 0, .int .i64 0] 98 := (Blk.new W0 _ _).drew
  have hne : N ≠ W0.heap.size := by have h2 : N < W0.heap.size := Nl; omega
  have hwW : w.heap.size ≤ W0.heap.size := hbd.size
  go_region_held3 (fun x => x.cell? ⟨N, 0, none⟩ = some (.int .i64 t) ∧ x.cell? ⟨N, 1, none⟩ = some (.int .i64 hp))
   (first | assumption | exact F0 | exact F1 | exact F2 | exact cell2_alloc F0 | exact cell2_alloc F1 | exact cell2_alloc F2 | exact cell2_set3 F2 hne hne | exact cell2_set3 F2 hne1 hne1)
   (first
     | (go_at_call 64; refine (hho _ (by first | exact hbd | exact below_chain hbd ba)).mono ?_; rintro e w1 ⟨b, n, c, rfl, b1, hto1⟩; first | (have hn1 := hn3.below b1; have hM1 := (hMd.below ba).below b1; have F1 := And.intro (hM1.cell 0) (hM1.cell 1)) | (have hM1 := hMd.below b1; have F1 := And.intro (hM1.cell 0) (hM1.cell 1)))
     | (go_at_call 199; refine (hto1 _ (by first | exact Below.refl _ _ | exact below_alloc _ _)).mono ?_; rintro e w2 ⟨rfl, b2⟩; first | (have hn2 := hn1.below b2; have hM2 := hM1.below b2; have F2 := And.intro (hM2.cell 0) (hM2.cell 1); have y0 := hn2.cell 0; have y1 := hn2.cell 1; have y2 := hn2.cell 2; have z0 := hn2.frozen 0; have z1 := hn2.frozen 1; have z2 := hn2.frozen 2) | (have hM2 := hM1.below b2; have F2 := And.intro (hM2.cell 0) (hM2.cell 1)) | (have hn2 := (Blk.new w1 #[.int .i64 0, .int .i64 0, .int .i64 0] 98).below b2; have hM2 := (hM1.below (below_alloc w1 _)).below b2; have F2 := And.intro (hM2.cell 0) (hM2.cell 1); have hne1 : N ≠ w1.heap.size := (by have h2 := hM1.lt; omega); have y0 := hn2.cell 0; have y1 := hn2.cell 1; have y2 := hn2.cell 2; have z0 := hn2.frozen 0; have z1 := hn2.frozen 1; have z2 := hn2.frozen 2)))
  all_goals
   go_wp2_with (fail)
   go_meet
   first
    | exact ⟨_, rfl, rfl, World.cell?_alloc_mark w2 _ _ (0, 0) 2, below_chain (below_chain (below_chain hbd b1) b2) (below_alloc _ _), cell_alloc F2.2⟩
    | (have h5 := store3 (a := .int .i64 d) (b := .int .i64 f) (c := .int .i64 x) hn2 rfl hwW (below_chain (below_chain (below_chain hbd ba) b1) b2)
       exact ⟨_, rfl, rfl, h5.2.1, h5.2.2.1, cell_set3 F2.2 hne⟩)
    | (have h5 := store3 (a := .int .i64 d) (b := .int .i64 f) (c := .int .i64 x) hn2 rfl (Nat.le_trans hwW b1.size) (below_chain (below_chain (below_chain hbd b1) (below_alloc w1 _)) b2)
       exact ⟨_, rfl, rfl, h5.2.1, h5.2.2.1, cell_set3 F2.2 hne1⟩)
 case rest =>
  obtain ⟨Z, rfl, rfl, dz, hbx, dn⟩ := hcut
  have zl := World.block_lt_of_cell? _ _ dz
  have nl := World.block_lt_of_cell? _ _ dn
  cases ok with
  | false =>
    have HO : Hid (op = none) := by show _ = _; rw [hon.out, if_neg (by simp)]
    clear hho hto hon
    go_wp2_with (fail)
    go_ret2
    exact ⟨by rw [HO.out]; rfl, hbx⟩
  | true =>
    by_cases h1 : hp < 1
    · have HO : Hid (op = none) := by show _ = _; rw [hon.out, if_neg (by omega)]
      clear hho hto hon
      go_wp2_with (fail)
      go_ret2
      exact ⟨by rw [HO.out]; rfl, hbx⟩
    · have HO : Hid (op = bp) := by show _ = _; rw [hon.out, if_pos ⟨by omega, rfl⟩]
      have hpt := hto.out _ hbx
      clear hho hto hon
      go_wp2_with (fail)
      refine hpt.mono ?_
      rintro e w5 ⟨rfl, b5⟩
      have HB : Hid _ := below_chain hbx b5
      clear hpt
      go_wp2_with (fail)
      go_ret2
      exact ⟨by rw [HO.out]; rfl, HB.out⟩
end Rt
end Go.Proofs.YtieklnlbljejdaaGreatDoor

namespace Go.Proofs.YtieklnlbljejdaaGreatDoor
open Go.RowKit St
namespace Rt
theorem infoMsg : (Tryz.prog.info? 106).map (fun i => (i.zero, i.size, i.bytes)) = some (some (.agg #[.int .i64 0, .int .i64 0, .string ⟨#[]⟩]), 3, 32) := by kernel_rfl
theorem msgC_snoc (l : List Msg) (t : Msg) : msgC (l ++ [t]) = msgC l ++ [.int .i64 t.1, .int .i64 t.2.1, .string ⟨t.2.2.toArray⟩] := by simp [msgC]
theorem one_msg (a b : Int) (s : ByteArray) : ∀ u ∈ [Value.int .i64 a, .int .i64 b, .string s], u.oneCell' = true := by
 intro u hu
 simp at hu
 rcases hu with rfl | rfl | rfl <;> rfl
set_option maxRecDepth 100000 in
set_option maxHeartbeats 4000000 in
theorem send_here (z : Zt) (r : RtM) (hp : Int) (tx : ByteArray) (w : World) (h : RtR w z r) (hn : r.inb.length ≤ 1000000) :
 Calls Tryz.prog 91 #[.pointer (some ⟨z.R, 0, none⟩), .agg #[.int .i64 r.id, .int .i64 hp, .string tx]] w fun e w' => e = .returned (.tuple #[]) ∧ WentR w w' z { r with inb := r.inb ++ [(r.id, hp, tx.data.toList)] } r.n := by
 obtain ⟨i0, hi, hz0, hz1, hz2⟩ := info_parts infoMsg
 have ba := below_alloc w (.cells #[.int .i64 r.id, .int .i64 hp, .string tx] 106)
 have hM : Blk (w.alloc (.cells #[.int .i64 r.id, .int .i64 hp, .string tx] 106)) w.heap.size #[.int .i64 r.id, .int .i64 hp, .string tx] 106 := Blk.new w _ _
 obtain ⟨W0, hW0⟩ : ∃ W0, w.alloc (.cells #[.int .i64 r.id, .int .i64 hp, .string tx] 106) = W0 := ⟨_, rfl⟩
 obtain ⟨N, hN⟩ : ∃ N, w.heap.size = N := ⟨_, rfl⟩
 rw [hW0] at ba hM
 rw [hN] at hM
 have R0 := h.below ba
 have c0 := R0.c0
 have cl := R0.lt
 have m0 : W0.cell? ⟨N, 0, none⟩ = some (.int .i64 r.id) := hM.cell 0
 have ml := hM.lt
 have heq : (r.id == r.id) = true := by simp
 have HR : Hid _ := h
 have HR0 : Hid _ := R0
 have HM : Hid _ := hM
 have HBa : Hid _ := ba
 have HW0 : Hid _ := hW0
 have HN : Hid _ := hN
 clear h R0 hM ba hW0 hN
 go_enter Tryz.func91, Tryz.ntmps91
 go_wp2_with (fail)
 rw [HW0.out, HN.out]
 go_quiet (fail)
 obtain ⟨W1, hW1⟩ : ∃ W1, W0.drewN nq = W1 := ⟨_, rfl⟩
 have b1 : Below w.heap.size w W1 := by rw [← hW1]; exact below_drewN HBa.out nq
 have hM1 : Blk W1 N #[.int .i64 r.id, .int .i64 hp, .string tx] 106 := by rw [← hW1]; exact Blk.drewN HM.out nq
 rw [hW1]
 have R1 := HR.out.below b1
 have hblk := R1.blk
 have hrow := R1.ib
 have e3 := R1.c3
 have el := R1.lt
 have d0 : W1.cell? ⟨N, 0, none⟩ = some (.int .i64 r.id) := hM1.cell 0
 have d1 : W1.cell? ⟨N, 1, none⟩ = some (.int .i64 hp) := hM1.cell 1
 have d2 : W1.cell? ⟨N, 2, none⟩ = some (.string tx) := hM1.cell 2
 have dl := hM1.lt
 have HO : Hid (z.iv.ownBlock ≠ some z.R) := fun e => (R1.sI _ e).1 rfl
 have HB1 : Hid _ := b1
 have HR1 : Hid _ := R1
 obtain ⟨nn, hnn⟩ : ∃ nn, r.inb.length = nn := ⟨_, rfl⟩
 have HNN : Hid _ := hnn
 rw [hnn] at hrow hn
 clear hW1 b1 R1 c0 cl m0 ml HR0 HM HBa HW0 hnn
 go_wp2_with (fail)
 go_region_law ((refine step_append_row (by rfl) (.tmp 17) (.tmp 19) 53 (by rfl) 106 i0 (.agg #[.int .i64 0, .int .i64 0, .string ⟨#[]⟩]) 3 32 Tryz.underlying53 hi hz0 hz1 hz2 (by rfl) (by decide) z.iv nn (msgC r.inb) (by rfl) ((hrow.alloc _).drew) _ 1 1 [.int .i64 r.id, .int .i64 hp, .string tx] (by rfl) (by rfl) (by decide) (cells_threeD _ _ _ _ _ _ rfl) (one_msg _ _ _) (by unfold maxLen; omega) (by omega) ?_; intro g' cap' x1 hr1 hg1 hown1; have e11 := blk_far2 hblk hg1 HO.out; have f3 := e11.frozen 3; have g3 : x1.cell? ⟨z.R, 3, none⟩ = some z.iv := e11.cell 3))
 all_goals
  go_wp2_with (fail)
  first | go_end0 | refine bodyPost_ret (results_none rfl _ _ _) rfl ?_
  refine ⟨rfl, WentR.first HR.out rfl HB1.out (fun R => ?_)⟩
  have hsz : W1.heap.size ≤ x1.heap.size := Nat.le_trans (by show W1.heap.size ≤ (W1.alloc _).heap.size; simp) hg1.size
  have hown2 : ∀ k, Value.ownBlock (.slice (some ⟨g', 0, none⟩) (nn + 1) cap') = some k → z.iv.ownBlock = some k ∨ W1.heap.size ≤ k := by
   intro k hk
   have hkk : g' = k := by simpa [Value.ownBlock] using hk
   subst hkk
   rcases hown1 with hh | hh
   · exact .inl hh
   · exact .inr (Nat.le_trans (by show W1.heap.size ≤ (W1.alloc _).heap.size; simp) hh)
  have hgR : g' ≠ z.R := by
   intro e
   rcases hown2 g' rfl with hh | hh
   · exact HO.out (by rw [hh, e])
   · omega
  refine R.own (.slice (some ⟨g', 0, none⟩) (nn + 1) cap') (r.inb ++ [(r.id, hp, tx.data.toList)]) r.drop (by simpa using hsz) hg1.os hg1.tape hg1.output (fun k hk h1 h2 => ?_) ?_ ?_ hown2
  · rw [Below.heap_setCell _ _ _ k h1, hg1.block k (by show k < (W1.alloc _).heap.size; simp; omega) (fun e => h2 e.symm)]
    exact Below.heap_alloc W1 _ k hk
  · exact e11.set 3 _
  · rw [msgC_snoc, List.length_append, HNN.out]
    have e4 : (⟨tx.data.toList.toArray⟩ : ByteArray) = tx := by simp
    rw [e4]
    refine hr1.keep (by simp) (fun k hk => ?_)
    have hkk : g' = k := by simpa [Value.ownBlock] using hk
    exact Below.heap_setCell _ _ _ k (by show k ≠ z.R; omega)
end Rt
end Go.Proofs.YtieklnlbljejdaaGreatDoor

namespace Go.Proofs.YtieklnlbljejdaaGreatDoor
open Go.RowKit St
namespace Rt
theorem cell4_alloc {w : World} {o : Obj} {p q s t : Addr} {a b c d : Value} (h : w.cell? p = some a ∧ w.cell? q = some b ∧ w.cell? s = some c ∧ w.cell? t = some d) : (w.alloc o).cell? p = some a ∧ (w.alloc o).cell? q = some b ∧ (w.alloc o).cell? s = some c ∧ (w.alloc o).cell? t = some d := ⟨cell_alloc h.1, cell_alloc h.2.1, cell_alloc h.2.2.1, cell_alloc h.2.2.2⟩
theorem onP_lt {r : RtM} {t hp : Int} {j : Nat} (h : onP r t hp = some j) : j < r.n ∧ 1 ≤ hp := by
 unfold onP at h
 split at h
 · rename_i h1
   cases ht : toH (hopsM r) t with
   | none => rw [ht] at h; cases h
   | some x => rw [ht] at h; exact ⟨(bestP_some h).1, h1⟩
 · cases h
set_option maxRecDepth 100000 in
set_option maxHeartbeats 1500000 in
theorem send_away (z : Zt) (r : RtM) (t hp : Int) (tx : ByteArray) (w : World) (h : RtR w z r) (hK : KOk r.K) (hne : t ≠ r.id) (ht : 0 ≤ t ∧ t ≤ 255) (hh : 0 ≤ hp ∧ hp ≤ 255) (htx : tx.size ≤ 900) (hd : 0 ≤ r.drop ∧ r.drop ≤ 4000000000000000000) (hout : ∀ j, j < r.n → (r.P j).out.length ≤ 800000000) :
 Calls Tryz.prog 91 #[.pointer (some ⟨z.R, 0, none⟩), .agg #[.int .i64 t, .int .i64 hp, .string tx]] w fun e w' => e = .returned (.tuple #[]) ∧ WentR w w' z (r.send (t, hp, tx.data.toList)) r.n := by
 have hS : Hid (r.send (t, hp, tx.data.toList) = match onP r t hp with | none => { r with drop := r.drop + 1 } | some i => r.setP i ((r.P i).put 77 (pku8 t :: pku8 (hp - 1) :: tx.data.toList))) := by
  show _ = _
  unfold RtM.send
  rw [if_neg hne]
  rfl
 have ba := below_alloc w (.cells #[.int .i64 t, .int .i64 hp, .string tx] 106)
 have hM : Blk (w.alloc (.cells #[.int .i64 t, .int .i64 hp, .string tx] 106)) w.heap.size #[.int .i64 t, .int .i64 hp, .string tx] 106 := Blk.new w _ _
 obtain ⟨W0, hW0⟩ : ∃ W0, w.alloc (.cells #[.int .i64 t, .int .i64 hp, .string tx] 106) = W0 := ⟨_, rfl⟩
 obtain ⟨N, hN⟩ : ∃ N, w.heap.size = N := ⟨_, rfl⟩
 rw [hW0] at ba hM
 rw [hN] at hM
 have R0 := h.below ba
 have c0 := R0.c0
 have cl := R0.lt
 have m0 : W0.cell? ⟨N, 0, none⟩ = some (.int .i64 t) := hM.cell 0
 have ml := hM.lt
 have heq : (t == r.id) = false := by simp [hne]
 have HR : Hid _ := h
 have HM : Hid _ := hM
 have HBa : Hid _ := ba
 have HW0 : Hid _ := hW0
 have HN : Hid _ := hN
 clear h R0 hM ba hW0 hN hne
 go_enter Tryz.func91, Tryz.ntmps91
 go_wp2_with (fail)
 rw [HW0.out, HN.out]
 go_quiet (fail)
 obtain ⟨W1, hW1⟩ : ∃ W1, W0.drewN nq = W1 := ⟨_, rfl⟩
 have b1 : Below w.heap.size w W1 := by rw [← hW1]; exact below_drewN HBa.out nq
 have hM1 : Blk W1 N #[.int .i64 t, .int .i64 hp, .string tx] 106 := by rw [← hW1]; exact Blk.drewN HM.out nq
 rw [hW1]
 have d0 : W1.cell? ⟨N, 0, none⟩ = some (.int .i64 t) := hM1.cell 0
 have d1 : W1.cell? ⟨N, 1, none⟩ = some (.int .i64 hp) := hM1.cell 1
 have d2 : W1.cell? ⟨N, 2, none⟩ = some (.string tx) := hM1.cell 2
 have dl := hM1.lt
 have hon := portOn_any z r t hp tx W1 (HR.out.below b1) hK
 have HM1 : Hid _ := hM1
 have HB1 : Hid _ := b1
 clear hW1 c0 cl m0 ml HM HBa HW0 hM1 b1
 cases ho : onP r t hp with
 | none =>
   have hon : Calls Tryz.prog 153 #[.pointer (some ⟨z.R, 0, none⟩), .agg #[.int .i64 t, .int .i64 hp, .string tx]] W1 fun e w' => e = .returned (.tuple #[.int .i64 0, .bool false]) ∧ Below W1.heap.size W1 w' := by
    rw [ho] at hon
    exact hon
   rw [ho] at hS
   go_wp2_with (fail)
   refine hon.mono ?_
   rintro e w2 ⟨rfl, b2⟩
   have bb := below_chain HB1.out b2
   have R2 := HR.out.below bb
   have hblk := R2.blk
   have e4 := R2.c4
   have f4 := hblk.frozen 4
   have el := R2.lt
   have hsI : Hid (z.iv.ownBlock ≠ some z.R) := fun e => (R2.sI _ e).1 rfl
   have hib := R2.ib
   have HBB : Hid _ := bb
   have hd0 := hd.1
   have hd1 := hd.2
   have hwr : IntKind.i64.wrap (r.drop + 1) = r.drop + 1 := IntWalk.i64_in _ ⟨by omega, by omega⟩
   clear hon R2 b2 bb hd
   go_wp2_with (fail)
   first | go_end0 | refine bodyPost_ret (results_none rfl _ _ _) rfl ?_
   refine ⟨rfl, ?_⟩
   rw [hS.out]
   refine WentR.first HR.out rfl HBB.out (fun R => ?_)
   refine R.own z.iv r.inb (r.drop + 1) (by simp) rfl rfl rfl (fun k _ h1 _ => Below.heap_setCell _ _ _ k h1) (hblk.set 4 _) ?_ (fun k hk => .inl hk)
   exact hib.keep (by simp) (fun k hk => Below.heap_setCell _ _ _ k (by show k ≠ z.R; intro e; exact hsI.out (by rw [hk, e])))
 | some j =>
   have hon : Calls Tryz.prog 153 #[.pointer (some ⟨z.R, 0, none⟩), .agg #[.int .i64 t, .int .i64 hp, .string tx]] W1 fun e w' => e = .returned (.tuple #[.int .i64 (j : Int), .bool true]) ∧ Below W1.heap.size W1 w' := by
    rw [ho] at hon
    exact hon
   rw [ho] at hS
   obtain ⟨hjn, hp1⟩ := onP_lt ho
   have hj' : (j : Int) < (r.n : Int) := by omega
   have hj0 : (0 : Int) ≤ (j : Int) := by omega
   go_wp2_with (fail)
   refine hon.mono ?_
   rintro e w2 ⟨rfl, b2⟩
   have bb := below_chain HB1.out b2
   have hM2 := Blk.below HM1.out b2
   have R2 := HR.out.below (below_chain bb (below_d w2))
   have F0 : w2.drew.cell? ⟨z.R, 1, none⟩ = some (.slice (some ⟨z.g, 0, none⟩) r.n z.cap) ∧ w2.drew.cell? ⟨N, 0, none⟩ = some (.int .i64 t) ∧ w2.drew.cell? ⟨N, 1, none⟩ = some (.int .i64 hp) ∧ w2.drew.cell? ⟨N, 2, none⟩ = some (.string tx) := ⟨R2.c1, hM2.cell 0, hM2.cell 1, hM2.cell 2⟩
   have hlen : ¬ (9223372036854775807 < 2 + tx.size) := by omega
   have hw8 : IntKind.u8.wrap t = t := IntWalk.u8_in _ ⟨by omega, by omega⟩
   have hwm : IntKind.i64.wrap (hp - 1) = hp - 1 := IntWalk.i64_in _ ⟨by omega, by omega⟩
   have hw9 : IntKind.u8.wrap (hp - 1) = hp - 1 := IntWalk.u8_in _ ⟨by omega, by omega⟩
   have hcv : (convert 140 9 (.slice (some ⟨w2.heap.size, 0, none⟩) 2 2)).run Tryz.prog (w2.alloc (.cells #[.int .u8 t, .int .u8 (hp - 1)] 5)).drew = .ok (.string ⟨#[u8 t, u8 (hp - 1)]⟩) (w2.alloc (.cells #[.int .u8 t, .int .u8 (hp - 1)] 5)).drew := conv2 w2.drew t (hp - 1) ht.1 ht.2 (by omega) (by omega)
   have b3 : Below w.heap.size w (w2.alloc (.cells #[.int .u8 t, .int .u8 (hp - 1)] 5)).drew := below_drew (below_chain bb (below_alloc _ _))
   obtain ⟨s2, hs2⟩ : ∃ s2 : ByteArray, (⟨#[u8 t, u8 (hp - 1)]⟩ ++ tx) = s2 := ⟨_, rfl⟩
   have hs2l : s2.data.toList = u8 t :: u8 (hp - 1) :: tx.data.toList := by
    rw [← hs2]
    simp
   have hs2s : s2.size ≤ 1000 := by
    have e : s2.size = s2.data.toList.length := by simp
    have e2 : tx.data.toList.length = tx.size := by simp
    rw [e, hs2l]
    simp only [List.length_cons, e2]
    omega
   have hput : Calls Tryz.prog 150 #[.pointer (some ⟨z.g, j * 71, none⟩), .string ⟨#[77]⟩, .string s2] (w2.alloc (.cells #[.int .u8 t, .int .u8 (hp - 1)] 5)).drew fun e w' => e = .returned (.tuple #[]) ∧ WentR w w' z (r.send (t, hp, tx.data.toList)) r.n ∧ (w'.cell? ⟨z.R, 1, none⟩ = some (.slice (some ⟨z.g, 0, none⟩) r.n z.cap) ∧ w'.cell? ⟨N, 0, none⟩ = some (.int .i64 t) ∧ w'.cell? ⟨N, 1, none⟩ = some (.int .i64 hp) ∧ w'.cell? ⟨N, 2, none⟩ = some (.string tx)) := by
    have R3 := HR.out.below b3
    have hF3 : (w2.alloc (.cells #[.int .u8 t, .int .u8 (hp - 1)] 5)).drew.cell? ⟨z.R, 1, none⟩ = some (.slice (some ⟨z.g, 0, none⟩) r.n z.cap) ∧ (w2.alloc (.cells #[.int .u8 t, .int .u8 (hp - 1)] 5)).drew.cell? ⟨N, 0, none⟩ = some (.int .i64 t) ∧ (w2.alloc (.cells #[.int .u8 t, .int .u8 (hp - 1)] 5)).drew.cell? ⟨N, 1, none⟩ = some (.int .i64 hp) ∧ (w2.alloc (.cells #[.int .u8 t, .int .u8 (hp - 1)] 5)).drew.cell? ⟨N, 2, none⟩ = some (.string tx) := cell4_alloc (o := .cells #[.int .u8 t, .int .u8 (hp - 1)] 5) F0
    generalize (w2.alloc (.cells #[.int .u8 t, .int .u8 (hp - 1)] 5)).drew = W3 at b3 R3 hF3 ⊢
    have hpj := hout j hjn
    refine (put_any z.g (j * 71) (z.B j) (z.v j) (r.P j) ⟨#[77]⟩ s2 77 W3 (R3.pt j hjn) rfl hs2s (by omega)).mono ?_
    rintro e w6 ⟨rfl, hw6⟩
    have hE : r.send (t, hp, tx.data.toList) = r.setP j ((r.P j).put 77 s2.data.toList) := by
     rw [hS.out, hs2l]
     rfl
    have hw7 := R3.port hjn hw6
    rw [hE]
    have hnm : ¬ z.mine r.n N := by rw [← HN.out]; exact HR.out.not_mine (Nat.le_refl _)
    exact ⟨rfl, WentR.first HR.out rfl b3 (fun _ => hw7), hw7.c1, hw7.cell R3 (p := ⟨N, 0, none⟩) hnm hF3.2.1, hw7.cell R3 (p := ⟨N, 1, none⟩) hnm hF3.2.2.1, hw7.cell R3 (p := ⟨N, 2, none⟩) hnm hF3.2.2.2⟩
   have el := R2.lt
   have eg := R2.glt
   obtain ⟨T, hT⟩ : ∃ T : World → Prop, (fun x => WentR w x z (r.send (t, hp, tx.data.toList)) r.n) = T := ⟨_, rfl⟩
   have hT' : ∀ x, WentR w x z (r.send (t, hp, tx.data.toList)) r.n = T x := fun x => congrFun hT x
   simp only [hT'] at hput
   have HT : Hid _ := hT'
   clear hon hM2 b2 hT hT' R2 b3 hs2l hs2s bb
   go_wp2_with (fail)
   refine wp_region_held_drew (S := fun x => x.cell? ⟨z.R, 1, none⟩ = some (.slice (some ⟨z.g, 0, none⟩) r.n z.cap) ∧ x.cell? ⟨N, 0, none⟩ = some (.int .i64 t) ∧ x.cell? ⟨N, 1, none⟩ = some (.int .i64 hp) ∧ x.cell? ⟨N, 2, none⟩ = some (.string tx)) (by kernel_rfl) F0 (fun hHeld => ?_)
   refine rt_yes 0 (some 38) rfl rfl (by kernel_rfl) (by kernel_rfl) (by kernel_rfl) (fun _ _ _ h => h) (by rfl) (v := ?_) ?_ (by assumption) ?_
   rotate_left
   · intro wS hSw
     (try dsimp only at hSw)
     go_simp
     try with_reducible rfl
   simp only [Act.put, List.setIfInBounds_toArray, List.set_cons_zero, List.set_cons_succ]
   refine rt_yes 1 (some 39) rfl rfl (by kernel_rfl) (by kernel_rfl) (by kernel_rfl) (fun _ _ _ h => h) (by rfl) (v := ?_) ?_ (by assumption) ?_
   rotate_left
   · intro wS hSw
     (try dsimp only at hSw)
     go_simp
     try with_reducible rfl
   simp only [Act.put, List.setIfInBounds_toArray, List.set_cons_zero, List.set_cons_succ]
   refine rt_yes 2 (some 40) rfl rfl (by kernel_rfl) (by kernel_rfl) (by kernel_rfl) (fun _ _ _ h => h) (by rfl) (v := ?_) ?_ (by assumption) ?_
   rotate_left
   · intro wS hSw
     (try dsimp only at hSw)
     go_simp
     try with_reducible rfl
   simp only [Act.put, List.setIfInBounds_toArray, List.set_cons_zero, List.set_cons_succ]
   refine rt_yes 3 (some 41) rfl rfl (by kernel_rfl) (by kernel_rfl) (by kernel_rfl) (fun _ _ _ h => h) (by rfl) (v := ?_) ?_ (by assumption) ?_
   rotate_left
   · intro wS hSw
     (try dsimp only at hSw)
     go_simp
     try with_reducible rfl
   simp only [Act.put, List.setIfInBounds_toArray, List.set_cons_zero, List.set_cons_succ]
   refine rt_yes 4 (some 42) rfl rfl (by kernel_rfl) (by kernel_rfl) (by kernel_rfl) (fun _ _ _ h => h) (by rfl) (v := ?_) ?_ (by assumption) ?_
   rotate_left
   · intro wS hSw
     (try dsimp only at hSw)
     go_simp
     try with_reducible rfl
   simp only [Act.put, List.setIfInBounds_toArray, List.set_cons_zero, List.set_cons_succ]
   refine rt_yes 5 (some 43) rfl rfl (by kernel_rfl) (by kernel_rfl) (by kernel_rfl) (fun _ _ _ h => h) (by rfl) (v := ?_) ?_ (by assumption) ?_
   rotate_left
   · intro wS hSw
     (try dsimp only at hSw)
     go_simp
     try with_reducible rfl
   simp only [Act.put, List.setIfInBounds_toArray, List.set_cons_zero, List.set_cons_succ]
   refine rt_yes 6 (some 44) rfl rfl (by kernel_rfl) (by kernel_rfl) (by kernel_rfl) (fun _ _ _ h => h) (by rfl) (v := ?_) ?_ (by assumption) ?_
   rotate_left
   · intro wS hSw
     (try dsimp only at hSw)
     go_simp
     try with_reducible rfl
   simp only [Act.put, List.setIfInBounds_toArray, List.set_cons_zero, List.set_cons_succ]
   refine rt_yes 7 (some 45) rfl rfl (by kernel_rfl) (by kernel_rfl) (by kernel_rfl) (fun _ _ _ h => h) (by rfl) (v := ?_) ?_ (by assumption) ?_
   rotate_left
   · intro wS hSw
     (try dsimp only at hSw)
     go_simp
     try with_reducible rfl
   simp only [Act.put, List.setIfInBounds_toArray, List.set_cons_zero, List.set_cons_succ]
   refine rt_yes 8 (some 46) rfl rfl (by kernel_rfl) (by kernel_rfl) (by kernel_rfl) (fun _ _ _ h => h) (by rfl) (v := ?_) ?_ (by assumption) ?_
   rotate_left
   · intro wS hSw
     (try dsimp only at hSw)
     go_simp
     try with_reducible rfl
   simp only [Act.put, List.setIfInBounds_toArray, List.set_cons_zero, List.set_cons_succ]
   refine rt_yes 9 (some 47) rfl rfl (by kernel_rfl) (by kernel_rfl) (by kernel_rfl) (fun _ _ _ h => h) (by rfl) (v := ?_) ?_ (by assumption) ?_
   rotate_left
   · intro wS hSw
     (try dsimp only at hSw)
     go_simp
     try with_reducible rfl
   simp only [Act.put, List.setIfInBounds_toArray, List.set_cons_zero, List.set_cons_succ]
   refine rt_yes 10 (some 48) rfl rfl (by kernel_rfl) (by kernel_rfl) (by kernel_rfl) (fun _ _ _ h => h) (by rfl) (v := ?_) ?_ (by assumption) ?_
   rotate_left
   · intro wS hSw
     (try dsimp only at hSw)
     go_simp
     try with_reducible rfl
   simp only [Act.put, List.setIfInBounds_toArray, List.set_cons_zero, List.set_cons_succ]
   refine rt_yes 11 (some 49) rfl rfl (by kernel_rfl) (by kernel_rfl) (by kernel_rfl) (fun _ _ _ h => h) (by rfl) (v := ?_) ?_ (by assumption) ?_
   rotate_left
   · intro wS hSw
     (try dsimp only at hSw)
     go_simp
     try with_reducible rfl
   simp only [Act.put, List.setIfInBounds_toArray, List.set_cons_zero, List.set_cons_succ]
   refine rt_yes 12 (some 50) rfl rfl (by kernel_rfl) (by kernel_rfl) (by kernel_rfl) (fun _ _ _ h => h) (by rfl) (v := ?_) ?_ (by assumption) ?_
   rotate_left
   · intro wS hSw
     (try dsimp only at hSw)
     go_simp
     try with_reducible rfl
   simp only [Act.put, List.setIfInBounds_toArray, List.set_cons_zero, List.set_cons_succ]
   refine rt_yes 15 (some 53) rfl rfl (by kernel_rfl) (by kernel_rfl) (by kernel_rfl) (fun _ _ _ h => h) (by rfl) (v := ?_) ?_ (by assumption) ?_
   rotate_left
   · intro wS hSw
     (try dsimp only at hSw)
     go_simp
     try with_reducible rfl
   simp only [Act.put, List.setIfInBounds_toArray, List.set_cons_zero, List.set_cons_succ]
   refine rt_yes 16 (some 54) rfl rfl (by kernel_rfl) (by kernel_rfl) (by kernel_rfl) (fun _ _ _ h => h) (by rfl) (v := ?_) ?_ (by assumption) ?_
   rotate_left
   · intro wS hSw
     (try dsimp only at hSw)
     go_simp
     try with_reducible rfl
   simp only [Act.put, List.setIfInBounds_toArray, List.set_cons_zero, List.set_cons_succ]
   refine wpAnyH_ready (rs := [13]) (by kernel_rfl) (by simp) ?_
   refine AllReadyH.cons (o := _) rfl (fun K hK => ?_) AllReadyH.nil
   go_simp
   refine hK.out _ _ ?_ (fun hHeld => ?_)
   · exact cell4_alloc F0
   clear hK K
   refine wpAnyH_ready (rs := [14]) (by kernel_rfl) (by simp) ?_
   refine AllReadyH.cons (o := _) rfl (fun K hK => ?_) AllReadyH.nil
   go_simp
   refine hK.out _ _ ?_ (fun hHeld => ?_)
   · exact cell4_alloc F0
   clear hK K
   refine rt_yes 17 (some 55) rfl rfl (by kernel_rfl) (by kernel_rfl) (by kernel_rfl) (fun _ _ _ h => h) (by rfl) (v := ?_) ?_ (by assumption) ?_
   rotate_left
   · intro wS hSw
     (try dsimp only at hSw)
     go_simp
     try with_reducible rfl
   simp only [Act.put, List.setIfInBounds_toArray, List.set_cons_zero, List.set_cons_succ]
   refine wpAnyH_ready (rs := [18]) (by kernel_rfl) (by simp) ?_
   refine AllReadyH.cons (o := _) rfl (fun K hK => ?_) AllReadyH.nil
   go_simp
   refine hput.mono ?_
   rintro e w5 ⟨rfl, hW5, F5⟩
   (try go_wp2_with (fail))
   refine hK.out _ _ ?_ (fun hHeld => ?_)
   · exact F5
   clear hK K
   refine wpAnyH_done (by kernel_rfl) ?_ _
   all_goals
    clear hput F0 F5
    go_wp2_with (fail)
    first | go_end0 | refine bodyPost_ret (results_none rfl _ _ _) rfl ?_
    exact ⟨rfl, by rw [HT.out]; exact hW5⟩
end Rt
end Go.Proofs.YtieklnlbljejdaaGreatDoor
