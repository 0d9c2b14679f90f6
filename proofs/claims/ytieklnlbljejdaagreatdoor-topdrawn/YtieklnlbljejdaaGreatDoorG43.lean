/-
  NtPlug NtSpoil
-/
import Derived.Test.YtieklnlbljejdaaGreatDoorG42
namespace Go.Proofs.YtieklnlbljejdaaGreatDoor
open Go.RowKit St
namespace Rt
theorem zeroOn (w : World) : (zeroValue 195).run Tryz.prog w = .ok (.agg #[.slice none 0 0, .slice none 0 0]) w := by kernel_rfl
theorem plugEnd_any (w : World) (y : Yt) (M : NtM) (D k c d m : Nat) (up : Bool) (hok : NOk M D k) (hD : D ≤ 900000000) (hk : k ≤ 90000) (hc : c < M.nc) (hd : d < 2) (hm : M.n = m) (i p : Nat) (hip : (M.C c).e d = (i, p)) (W0 W1 : World) (hW : WentN w W0 y M m) (hT : TabOk W0) (hb : Below W0.heap.size W0 W1) (E : Nat) (u v : Value) (hE : W0.heap.size ≤ E) (hce : W1.cell? ⟨E, 0, none⟩ = some u ∧ W1.cell? ⟨E, 1, none⟩ = some v) :
 Calls Tryz.prog 157 #[.pointer (some ⟨y.N, 0, none⟩), .agg #[.int .i64 ((i : Int) + 1), .int .i64 (p : Int)]] W1 fun e w1 => ∃ R, e = .returned (.pointer (some ⟨R, 0, none⟩)) ∧ (w1.cell? ⟨E, 0, none⟩ = some u ∧ w1.cell? ⟨E, 1, none⟩ = some v) ∧
  Calls Tryz.prog 20 #[.pointer (some ⟨R, 0, none⟩), .int .i64 (p : Int), .bool up] w1 fun e w2 => ∃ f : Nat, e = .returned (errV f) ∧ (w2.cell? ⟨E, 0, none⟩ = some u ∧ w2.cell? ⟨E, 1, none⟩ = some v) ∧ WentN w w2 y (M.plugAt c d up) m := by
 subst hm
 obtain ⟨hi, hp⟩ := hok.en c d hc hd
 rw [hip] at hi hp
 obtain ⟨y1, R0, s1, hm1, he1⟩ := hW.ex
 have R1 := R0.below hb
 have hEl : E < W1.heap.size := World.block_lt_of_cell? _ _ hce.1
 have hEn : ¬ y1.all M.n E := fun e => by
  have := R0.allLt (k := E) e
  omega
 rw [← s1.N]
 refine (at_any y1 _ i p W1 R1 hi).mono ?_
 rintro e w1 ⟨rfl, b1⟩
 refine ⟨_, rfl, ⟨(World.cell?_of_block (a := ⟨E, 0, none⟩) (b1.block E hEl)).trans hce.1, (World.cell?_of_block (a := ⟨E, 1, none⟩) (b1.block E hEl)).trans hce.2⟩, ?_⟩
 have hE1 : E < w1.heap.size := Nat.lt_of_lt_of_le hEl b1.size
 have R2 := R1.below b1
 have hT1 : TabOk w1 := TabOk.below (w := W0) hT (below_chain hb b1)
 refine (plugR_any up (y1.z i) (M.R i) p k w1 (R2.rt i hi) hT1 (hok.ok i hi) (hok.fits (by omega) hi) (by omega) (by rw [(hok.rn i hi).1]; exact hp)).mono ?_
 rintro e w2 ⟨rfl, hw⟩
 have hg := Grew.plug (M.R i) p up
 have hw2 := R2.routerN hi hw ⟨hg.n, hg.id⟩
 have hk2 := hw2.kept.block E hE1 hEn
 refine ⟨_, rfl, ⟨(World.cell?_of_block (a := ⟨E, 0, none⟩) (hk2.trans (b1.block E hEl))).trans hce.1, (World.cell?_of_block (a := ⟨E, 1, none⟩) (hk2.trans (b1.block E hEl))).trans hce.2⟩, ?_⟩
 have e1 : M.plugAt c d up = M.setR i ((M.R i).plug p up).1 := by
  unfold NtM.plugAt
  rw [hip]
 rw [e1]
 exact WentN.thenBy hW.kept s1 hm1 he1 (WentN.first (below_chain hb b1) hw2)
theorem NetR.turn {w x : World} {y : Yt} {n : NtM} {c g : Nat} (h : NetR w y n) (hc : c < n.nc) (hg : y.gC = some g) (up : Bool) (hx : x = ((w.setCell ⟨g, c * 7 + 4, none⟩ (.bool up)).setCell ⟨g, c * 7 + 5, none⟩ (.slice none 0 0)).setCell ⟨g, c * 7 + 6, none⟩ (.slice none 0 0)) :
 WentN w x y (n.setC c { n.C c with inn := up, on := fun _ => [] }) n.n := by
 have hC := h.rc g hg c hc
 have h4 := ((hC.set 4 (by decide) (.bool up)).set 5 (by decide) (.slice none 0 0)).set 6 (by decide) (.slice none 0 0)
 have hsz : x.heap.size = w.heap.size := by rw [hx]; simp
 have hblk : ∀ k, k ≠ g → x.heap[k]? = w.heap[k]? := fun k hk => by
  rw [hx, Below.heap_setCell _ _ _ k hk, Below.heap_setCell _ _ _ k hk, Below.heap_setCell _ _ _ k hk]
 have b1 : Below 0 w x := by rw [hx]; exact (((Below.refl 0 w).setCell (Nat.zero_le _) _).setCell (Nat.zero_le _) _).setCell (Nat.zero_le _) _
 refine h.cable hc hg _ (fun _ => .slice none 0 0) (by omega) b1.os b1.tape b1.output (fun k _ h1 _ => hblk k h1) (fun j hj => ?_) (fun j => ?_) ?_ (fun d _ => Row.nil _ 1) (fun d _ => Nat.zero_le _) rfl (fun d k _ e => by simp [Value.ownBlock] at e) (fun k e => by simp [Value.ownBlock] at e)
 · rw [hx]
   rw [World.cell?_setCell_other _ _ _ _ (fun e => by have := congrArg Addr.off e; simp at this; omega), World.cell?_setCell_other _ _ _ _ (fun e => by have := congrArg Addr.off e; simp at this; omega), World.cell?_setCell_other _ _ _ _ (fun e => by have := congrArg Addr.off e; simp at this; omega)]
 · rw [hx, frozen_setCell, frozen_setCell, frozen_setCell]
 · rw [hx]
   refine h4.congr fun j hj => ?_
   have : j = 0 ∨ j = 1 ∨ j = 2 ∨ j = 3 ∨ j = 4 ∨ j = 5 ∨ j = 6 := by omega
   rcases this with rfl | rfl | rfl | rfl | rfl | rfl | rfl <;> rfl
set_option maxRecDepth 100000 in
set_option maxHeartbeats 4000000 in
theorem plugI_any (y : Yt) (n : NtM) (D k c : Nat) (up : Bool) (w : World) (h : NetR w y n) (hT : TabOk w) (hok : NOk n D k) (hD : D ≤ 900000000) (hk : k ≤ 80000) (hc : c < n.nc) :
 Calls Tryz.prog 113 #[.pointer (some ⟨y.N, 0, none⟩), .int .i64 (c : Int), .bool up] w fun e w' => e = .returned (.tuple #[]) ∧ WentN w w' y (n.plug1 c up) n.n := by
 have c3 := h.k3
 obtain ⟨a, cp, hcv, hgc⟩ := h.cvs
 obtain ⟨g, hg, rfl⟩ := hgc c hc
 rw [hcv] at c3
 have cl := h.Nlt
 have c9 := h.c9
 have hc' : (c : Int) < (n.nc : Int) := by omega
 have hc0 : (0 : Int) ≤ (c : Int) := by omega
 have hC := h.rc g hg c hc
 have gl := hC.lt (by decide)
 have k4 := hC.cell 4 (by decide)
 have f4 := hC.fz 4 (by decide)
 have k5 := hC.cell 5 (by decide)
 have f5 := hC.fz 5 (by decide)
 have k6 : w.cell? ⟨g, c * 7 + 5 + 1, none⟩ = _ := hC.cell 6 (by decide)
 have f6 : w.frozen? ⟨g, c * 7 + 5 + 1, none⟩ = false := hC.fz 6 (by decide)
 have hzo := zeroOn
 obtain ⟨i0, p0, hip0⟩ : ∃ i0 p0, (n.C c).e 0 = (i0, p0) := ⟨_, _, rfl⟩
 obtain ⟨i1, p1, hip1⟩ : ∃ i1 p1, (n.C c).e 1 = (i1, p1) := ⟨_, _, rfl⟩
 have k0 : w.cell? ⟨g, c * 7, none⟩ = some (.int .i64 ((i0 : Int) + 1)) := by
  have := hC.cell 0 (by decide)
  rw [(cbF_e _ _).1, hip0] at this
  exact this
 have k1 : w.cell? ⟨g, c * 7 + 1, none⟩ = some (.int .i64 (p0 : Int)) := by
  have := hC.cell 1 (by decide)
  rw [(cbF_e _ _).2.1, hip0] at this
  exact this
 have k2 : w.cell? ⟨g, c * 7 + 2, none⟩ = some (.int .i64 ((i1 : Int) + 1)) := by
  have := hC.cell 2 (by decide)
  rw [(cbF_e _ _).2.2.1, hip1] at this
  exact this
 have k3 : w.cell? ⟨g, c * 7 + 3, none⟩ = some (.int .i64 (p1 : Int)) := by
  have := hC.cell 3 (by decide)
  rw [(cbF_e _ _).2.2.2.1, hip1] at this
  exact this
 have H0 : Hid (WentN w (((w.setCell ⟨g, c * 7 + 4, none⟩ (.bool up)).setCell ⟨g, c * 7 + 5, none⟩ (.slice none 0 0)).setCell ⟨g, c * 7 + 5 + 1, none⟩ (.slice none 0 0)) y (n.setC c { n.C c with inn := up, on := fun _ => [] }) n.n) := h.turn hc hg up rfl
 have hok0 : NOk (n.setC c { n.C c with inn := up, on := fun _ => [] }) D k := hok.setC (fun _ => rfl) (fun _ _ _ => Nat.zero_le _)
 obtain ⟨M0, hM0⟩ : ∃ M0, n.setC c { n.C c with inn := up, on := fun _ => [] } = M0 := ⟨_, rfl⟩
 have hMC : (M0.C c).e = (n.C c).e := by
  rw [← hM0]
  show (if c = c then _ else n.C c).e = _
  rw [if_pos rfl]
 have hMn : M0.n = n.n := by rw [← hM0]; rfl
 have hMc : M0.nc = n.nc := by rw [← hM0]; rfl
 have HE1 : Hid (n.plug1 c up = (M0.plugAt c 0 up).plugAt c 1 up) := by
  show _ = _
  unfold NtM.plug1
  rw [hM0]
 rw [hM0] at H0 hok0
 have hok1 : NOk (M0.plugAt c 0 up) D (k + 1) := hok0.plugR (by omega) (by rw [hMc]; exact hc) (by decide) up
 have HP0 : Hid (∀ W0, WentN w W0 y M0 n.n →
  Calls Tryz.prog 157 #[.pointer (some ⟨y.N, 0, none⟩), .agg #[.int .i64 ((i0 : Int) + 1), .int .i64 (p0 : Int)]] (W0.alloc (.cells #[.int .i64 ((i0 : Int) + 1), .int .i64 (p0 : Int)] 192)).drew fun e w1 => ∃ R, e = .returned (.pointer (some ⟨R, 0, none⟩)) ∧ (w1.cell? ⟨W0.heap.size, 0, none⟩ = some (.int .i64 ((i0 : Int) + 1)) ∧ w1.cell? ⟨W0.heap.size, 1, none⟩ = some (.int .i64 (p0 : Int))) ∧
  Calls Tryz.prog 20 #[.pointer (some ⟨R, 0, none⟩), .int .i64 (p0 : Int), .bool up] w1 fun e w2 => ∃ f : Nat, e = .returned (errV f) ∧ (w2.cell? ⟨W0.heap.size, 0, none⟩ = some (.int .i64 ((i0 : Int) + 1)) ∧ w2.cell? ⟨W0.heap.size, 1, none⟩ = some (.int .i64 (p0 : Int))) ∧ WentN w w2 y (M0.plugAt c 0 up) n.n) := by
  intro W0 hw
  have hb := below_drew (below_alloc W0 (.cells #[.int .i64 ((i0 : Int) + 1), .int .i64 (p0 : Int)] 192))
  have hB : Blk (W0.alloc (.cells #[.int .i64 ((i0 : Int) + 1), .int .i64 (p0 : Int)] 192)).drew W0.heap.size #[.int .i64 ((i0 : Int) + 1), .int .i64 (p0 : Int)] 192 := (Blk.new W0 _ _).drew
  exact plugEnd_any w y M0 D k c 0 n.n up hok0 hD (by omega) (by rw [hMc]; exact hc) (by decide) hMn i0 p0 (by rw [hMC]; exact hip0) W0 _ hw (hw.tab h rfl hT) hb W0.heap.size _ _ (Nat.le_refl _) ⟨hB.cell 0, hB.cell 1⟩
 have HP1 : Hid (∀ W0, WentN w W0 y (M0.plugAt c 0 up) n.n →
  Calls Tryz.prog 157 #[.pointer (some ⟨y.N, 0, none⟩), .agg #[.int .i64 ((i1 : Int) + 1), .int .i64 (p1 : Int)]] (W0.alloc (.cells #[.int .i64 ((i1 : Int) + 1), .int .i64 (p1 : Int)] 192)).drew fun e w1 => ∃ R, e = .returned (.pointer (some ⟨R, 0, none⟩)) ∧ (w1.cell? ⟨W0.heap.size, 0, none⟩ = some (.int .i64 ((i1 : Int) + 1)) ∧ w1.cell? ⟨W0.heap.size, 1, none⟩ = some (.int .i64 (p1 : Int))) ∧
  Calls Tryz.prog 20 #[.pointer (some ⟨R, 0, none⟩), .int .i64 (p1 : Int), .bool up] w1 fun e w2 => ∃ f : Nat, e = .returned (errV f) ∧ (w2.cell? ⟨W0.heap.size, 0, none⟩ = some (.int .i64 ((i1 : Int) + 1)) ∧ w2.cell? ⟨W0.heap.size, 1, none⟩ = some (.int .i64 (p1 : Int))) ∧ WentN w w2 y (n.plug1 c up) n.n) := by
  intro W0 hw
  have hb := below_drew (below_alloc W0 (.cells #[.int .i64 ((i1 : Int) + 1), .int .i64 (p1 : Int)] 192))
  have hB : Blk (W0.alloc (.cells #[.int .i64 ((i1 : Int) + 1), .int .i64 (p1 : Int)] 192)).drew W0.heap.size #[.int .i64 ((i1 : Int) + 1), .int .i64 (p1 : Int)] 192 := (Blk.new W0 _ _).drew
  rw [HE1.out]
  exact plugEnd_any w y (M0.plugAt c 0 up) D (k + 1) c 1 n.n up hok1 hD (by omega) (by show c < M0.nc; rw [hMc]; exact hc) (by decide) hMn i1 p1 (by show (M0.C c).e 1 = _; rw [hMC]; exact hip1) W0 _ hw (hw.tab h rfl hT) hb W0.heap.size _ _ (Nat.le_refl _) ⟨hB.cell 0, hB.cell 1⟩
 obtain ⟨nc, hnc⟩ : ∃ nc, n.nc = nc := ⟨_, rfl⟩
 rw [hnc] at c3 c9 hc'
 obtain ⟨m, hm⟩ : ∃ m, n.n = m := ⟨_, rfl⟩
 rw [hm] at H0 HP0 HP1 ⊢
 obtain ⟨M1, hM1⟩ : ∃ M1, M0.plugAt c 0 up = M1 := ⟨_, rfl⟩
 rw [hM1] at HP0 HP1
 obtain ⟨M2, hM2⟩ : ∃ M2, n.plug1 c up = M2 := ⟨_, rfl⟩
 rw [hM2] at HP1 ⊢
 clear h hT hok hcv hgc hC hg hc hnc hm hM1 hM2 HE1 hok0 hok1 hM0 hMC hMn hMc hip0 hip1
 go_enter Tryz.func113, Tryz.ntmps113
 go_wp2_with (fail)
 go_loopw [27] (fun x wr => (x = .int .i64 0 ∧ WentN w wr y M0 m) ∨ (x = .int .i64 1 ∧ WentN w wr y M1 m) ∨ (x = .int .i64 2 ∧ WentN w wr y M2 m)) (fun x _ => 2 - (intOf x).toNat)
 case atStart => exact .inl ⟨rfl, H0.out⟩
 case round =>
  rcases hrel with ⟨rfl, hwd⟩ | ⟨rfl, hwd⟩ | ⟨rfl, hwd⟩
  · have hix := idx0 ((i0 : Int) + 1) (p0 : Int) ((i1 : Int) + 1) (p1 : Int)
    have hE := HP0.out wr hwd
    obtain ⟨W1, hW1⟩ : ∃ W1, wr.alloc (.cells #[.int .i64 ((i0 : Int) + 1), .int .i64 (p0 : Int)] 192) = W1 := ⟨_, rfl⟩
    obtain ⟨E, hE0⟩ : ∃ E, wr.heap.size = E := ⟨_, rfl⟩
    have F0 : W1.drew.cell? ⟨E, 0, none⟩ = some (.int .i64 ((i0 : Int) + 1)) ∧ W1.drew.cell? ⟨E, 1, none⟩ = some (.int .i64 (p0 : Int)) := by
     have hB : Blk (wr.alloc (.cells #[.int .i64 ((i0 : Int) + 1), .int .i64 (p0 : Int)] 192)).drew wr.heap.size #[.int .i64 ((i0 : Int) + 1), .int .i64 (p0 : Int)] 192 := (Blk.new wr _ _).drew
     rw [hW1, hE0] at hB
     exact ⟨hB.cell 0, hB.cell 1⟩
    have El : E < W1.drew.heap.size := World.block_lt_of_cell? _ _ F0.1
    rw [hW1, hE0] at hE
    have HW1 : Hid _ := hW1
    have HE0 : Hid _ := hE0
    clear hwd hW1 hE0
    go_wp2_with (fail)
    try rw [HW1.out]
    try rw [HE0.out]
    go_region_held3 (fun x => x.cell? ⟨E, 0, none⟩ = some (.int .i64 ((i0 : Int) + 1)) ∧ x.cell? ⟨E, 1, none⟩ = some (.int .i64 (p0 : Int)))
     (first | assumption | exact F0 | exact F1 | exact F2)
     (first
       | (go_at_call 157; refine hE.mono ?_; rintro e w1 ⟨R, rfl, F1, hO⟩)
       | (go_at_call 20; refine hO.mono ?_; rintro e w2 ⟨f, rfl, F2, hP⟩))
    all_goals
     have HW4 : Hid _ := hP
     clear hE hO hP F0 F1 F2 El
     go_wp2_with (fail)
     go_roundw
     case rel => exact .inr (.inl ⟨by go_num, HW4.out⟩)
     case measure => simp [intOf]
  · have hix := idx1 ((i0 : Int) + 1) (p0 : Int) ((i1 : Int) + 1) (p1 : Int)
    have hE := HP1.out wr hwd
    obtain ⟨W1, hW1⟩ : ∃ W1, wr.alloc (.cells #[.int .i64 ((i1 : Int) + 1), .int .i64 (p1 : Int)] 192) = W1 := ⟨_, rfl⟩
    obtain ⟨E, hE0⟩ : ∃ E, wr.heap.size = E := ⟨_, rfl⟩
    have F0 : W1.drew.cell? ⟨E, 0, none⟩ = some (.int .i64 ((i1 : Int) + 1)) ∧ W1.drew.cell? ⟨E, 1, none⟩ = some (.int .i64 (p1 : Int)) := by
     have hB : Blk (wr.alloc (.cells #[.int .i64 ((i1 : Int) + 1), .int .i64 (p1 : Int)] 192)).drew wr.heap.size #[.int .i64 ((i1 : Int) + 1), .int .i64 (p1 : Int)] 192 := (Blk.new wr _ _).drew
     rw [hW1, hE0] at hB
     exact ⟨hB.cell 0, hB.cell 1⟩
    have El : E < W1.drew.heap.size := World.block_lt_of_cell? _ _ F0.1
    rw [hW1, hE0] at hE
    have HW1 : Hid _ := hW1
    have HE0 : Hid _ := hE0
    clear hwd hW1 hE0
    go_wp2_with (fail)
    try rw [HW1.out]
    try rw [HE0.out]
    go_region_held3 (fun x => x.cell? ⟨E, 0, none⟩ = some (.int .i64 ((i1 : Int) + 1)) ∧ x.cell? ⟨E, 1, none⟩ = some (.int .i64 (p1 : Int)))
     (first | assumption | exact F0 | exact F1 | exact F2)
     (first
       | (go_at_call 157; refine hE.mono ?_; rintro e w1 ⟨R, rfl, F1, hO⟩)
       | (go_at_call 20; refine hO.mono ?_; rintro e w2 ⟨f, rfl, F2, hP⟩))
    all_goals
     have HW4 : Hid _ := hP
     clear hE hO hP F0 F1 F2 El
     go_wp2_with (fail)
     go_roundw
     case rel => exact .inr (.inr ⟨by go_num, HW4.out⟩)
     case measure => simp [intOf]
  · have HQ : Hid (WentN w wr y M2 m) := hwd
    clear hwd
    go_wp2_with (fail)
    first | go_end0 | refine bodyPost_ret (results_none rfl _ _ _) rfl ?_
    exact ⟨rfl, HQ.out⟩
set_option maxRecDepth 100000 in
set_option maxHeartbeats 1000000 in
theorem plug_net (y : Yt) (n : NtM) (D : Nat) (i : Int) (up : Bool) (w : World) (h : NetR w y n) (hT : TabOk w) (hok : NOk n D 0) (hD : D ≤ 900000000) :
 Calls Tryz.prog 57 #[.pointer (some ⟨y.N, 0, none⟩), .int .i64 i, .bool up] w fun e w' => e = .returned (errV (n.plug i up).2) ∧ WentN w w' y (n.plug i up).1 n.n := by
 have hh := hasCable_any y n i w h
 rcases hasB_cases i n.nc with hn | ⟨c, hc, rfl⟩
 · have hi : i < 0 ∨ (n.nc : Int) ≤ i := by
    unfold hasB at hn
    by_cases h0 : 0 ≤ i
    · by_cases h1 : i < (n.nc : Int)
      · simp [h0, h1] at hn
      · omega
    · omega
   have hE : n.plug i up = (n, 6) := by unfold NtM.plug; rw [if_pos hi]
   rw [hE]
   rw [hn] at hh
   have HW : Hid _ := WentN.refl h
   clear h hok hT
   go_enter Tryz.func57, Tryz.ntmps57
   go_wp2_with (fail)
   refine hh.mono ?_
   rintro e w1 ⟨rfl, rfl⟩
   clear hh
   go_wp2_with (fail)
   go_ret
   exact ⟨rfl, HW.out⟩
 · rw [hasB_yes hc] at hh
   have c3 := h.k3
   obtain ⟨a, cp, hcv, hgc⟩ := h.cvs
   obtain ⟨g, hg, rfl⟩ := hgc c hc
   rw [hcv] at c3
   have cl := h.Nlt
   have c9 := h.c9
   have hc' : (c : Int) < (n.nc : Int) := by omega
   have hc0 : (0 : Int) ≤ (c : Int) := by omega
   have k4 : w.cell? ⟨g, c * 7 + 4, none⟩ = some (.bool (n.C c).inn) := (h.rc g hg c hc).cell 4 (by decide)
   have gl := (h.rc g hg c hc).lt (by decide)
   have hE : n.plug (c : Int) up = if (n.C c).inn = up then (n, 7) else ((n.plug1 c up).gather, 0) := by
    unfold NtM.plug
    rw [if_neg (by omega), Int.toNat_natCast]
   rw [hE]
   by_cases hu : (n.C c).inn = up
   · rw [if_pos hu]
     rw [hu] at k4
     have HW : Hid _ := WentN.refl h
     have hbb : (up == up) = true := by simp
     clear h hok hT hE hu hcv hgc
     go_enter Tryz.func57, Tryz.ntmps57
     go_wp2_with (fail)
     refine hh.mono ?_
     rintro e w1 ⟨rfl, rfl⟩
     clear hh
     go_wp2_with (fail)
     go_ret
     exact ⟨rfl, HW.out⟩
   · rw [if_neg hu]
     have hbb : ((n.C c).inn == up) = false := by simpa using hu
     have hp := plugI_any y n D 0 c up w h hT hok hD (by omega) hc
     have hok1 := hok.plug1 (by omega) hc up
     have hG : Hid (∀ W, WentN w W y (n.plug1 c up) n.n → Calls Tryz.prog 111 #[.pointer (some ⟨y.N, 0, none⟩)] W fun e w' => e = .returned (.tuple #[]) ∧ WentN w w' y (n.plug1 c up).gather n.n) := by
      intro W hW
      refine hW.call fun y1 R1 s1 => ?_
      rw [← s1.N]
      exact gather_any y1 _ _ _ W R1 hok1 (by omega) (by omega)
     have e0 : errV 0 = .nilIface := rfl
     rw [e0]
     generalize (n.C c).inn = b at k4 hbb
     clear h hok hT hE hu hcv hgc hok1
     go_enter Tryz.func57, Tryz.ntmps57
     go_wp2_with (fail)
     refine hh.mono ?_
     rintro e w1 ⟨rfl, rfl⟩
     clear hh
     go_wp2_with (fail)
     refine hp.mono ?_
     rintro e w1 ⟨rfl, hw1⟩
     have hg1 := hG.out _ hw1
     clear hp hw1
     go_wp2_with (fail)
     refine hg1.mono ?_
     rintro e w2 ⟨rfl, hw2⟩
     have HW : Hid _ := hw2
     clear hg1 hw2
     go_wp2_with (fail)
     go_ret
     exact ⟨rfl, HW.out⟩
end Rt
end Go.Proofs.YtieklnlbljejdaaGreatDoor

namespace Go.Proofs.YtieklnlbljejdaaGreatDoor
open Go.RowKit St
namespace Rt
theorem xor8 (c t : UInt8) : bits .xor .u8 (c.toNat : Int) (t.toNat : Int) = ((c ^^^ t).toNat : Int) := by
 have h1 : c.toNat < 256 := UInt8.toNat_lt c
 have h2 : t.toNat < 256 := UInt8.toNat_lt t
 have e := u8_xor_nat c.toNat t.toNat h1 h2
 rw [UInt8.toNat_xor]
 exact e
theorem Row.setAt {w : World} {g n cap j : Nat} {xs : List Value} {u : Value} (h : Row w 1 (.slice (some ⟨g, 0, none⟩) n cap) n xs) (hj : j < n) : Row (w.setCell ⟨g, j, none⟩ u) 1 (.slice (some ⟨g, 0, none⟩) n cap) n (xs.set j u) := by
 refine ⟨by rw [List.length_set]; exact h.1, ?_⟩
 rcases h.2 with ⟨e, _⟩ | ⟨g', cap', e, hg, h1, h2, h3, h4⟩
 · simp at e
 · simp at e
   obtain ⟨rfl, rfl⟩ := e
   refine .inr ⟨g, cap, rfl, by simpa using hg, h1, h2, fun k v hk => ?_, fun k hk => ?_⟩
   · have hl := h.1
     rw [Nat.mul_one] at hl
     by_cases ek : k = j
     · subst ek
       rw [List.getElem?_set_self (by omega)] at hk
       obtain rfl := Option.some.inj hk
       obtain ⟨v0, hv0⟩ := Option.isSome_iff_exists.1 (h4 k (by omega)).1
       exact World.cell?_setCell_same _ _ _ hv0
     · rw [List.getElem?_set_ne (fun e => ek e.symm)] at hk
       rw [World.cell?_setCell_other _ _ _ _ (fun e => ek (congrArg Addr.off e).symm)]
       exact h3 k v hk
   · rw [frozen_setCell]
     refine ⟨?_, (h4 k hk).2⟩
     by_cases ek : k = j
     · subst ek
       obtain ⟨v0, hv0⟩ := Option.isSome_iff_exists.1 (h4 k hk).1
       rw [World.cell?_setCell_same _ _ _ hv0]
       rfl
     · rw [World.cell?_setCell_other _ _ _ _ (fun e => ek (congrArg Addr.off e).symm)]
       exact (h4 k hk).1
theorem cells8_set (l : List UInt8) (j : Nat) (b : UInt8) : cells8 (l.set j b) = (cells8 l).set j (.int .u8 (b.toNat : Int)) := by
 unfold cells8
 rw [List.map_set]
theorem NetR.spoilt {w : World} {y : Yt} {n : NtM} {c d g j g2 cp : Nat} (h : NetR w y n) (hc : c < n.nc) (hd : d < 2) (hg : y.gC = some g) (hj : j < ((n.C c).on d).length) (hv : y.ov c d = .slice (some ⟨g2, 0, none⟩) ((n.C c).on d).length cp) (b : UInt8) :
 WentN w (w.setCell ⟨g2, j, none⟩ (.int .u8 (b.toNat : Int))) y (n.setC c { n.C c with on := upN (n.C c).on d (((n.C c).on d).set j b) }) n.n := by
 have b1 : Below 0 w (w.setCell ⟨g2, j, none⟩ (.int .u8 (b.toNat : Int))) := (Below.refl 0 w).setCell (Nat.zero_le _) _
 have hown : (y.ov c d).ownBlock = some g2 := by rw [hv]; rfl
 have hg2 : g2 ≠ g := fun e => h.onNe hg (by rw [hown, e])
 have hcell : (w.setCell ⟨g2, j, none⟩ (.int .u8 (b.toNat : Int))).heap[g]? = w.heap[g]? := Below.heap_setCell _ _ _ g (fun e => hg2 e.symm)
 refine h.cable hc hg _ (y.ov c) (by simp) b1.os b1.tape b1.output (fun k _ _ h2 => Below.heap_setCell _ _ _ k (fun e => h2 d hd (by rw [hown, e]))) (fun k _ => World.cell?_of_block (a := ⟨g, k, none⟩) hcell) (fun k => World.frozen?_of_block (a := ⟨g, k, none⟩) hcell) ?_ (fun x hx => ?_) (fun x hx => ?_) rfl (fun x k _ e => .inl e) (fun k e => ?_)
 · exact ((h.rc g hg c hc).keep hcell).congr (fun _ _ => rfl)
 · show Row _ 1 (y.ov c x) ((upN (n.C c).on d (((n.C c).on d).set j b)) x).length (cells8 ((upN (n.C c).on d (((n.C c).on d).set j b)) x))
   by_cases e : x = d
   · subst e
     rw [upN_same, List.length_set, cells8_set]
     have h1 := h.ob c x hc hx
     rw [hv] at h1 ⊢
     exact Row.setAt h1 hj
   · rw [upN_other _ _ e]
     refine (h.ob c x hc hx).keep (by simp) (fun k hk => Below.heap_setCell _ _ _ k (fun e1 => ?_))
     have e2 : k = g2 := e1
     subst e2
     have := h.inj (.on c x) (.on c d) k hk hown
     injection this with _ h3
     exact e h3
 · show ((upN (n.C c).on d (((n.C c).on d).set j b)) x).length ≤ 2000
   by_cases e : x = d
   · subst e; rw [upN_same, List.length_set]; exact h.ol c x hc hx
   · rw [upN_other _ _ e]; exact h.ol c x hc hx
 · intro e'
   have := h.inj (.on c 0) (.on c 1) k e e'
   injection this with _ h3
   exact absurd h3 (by decide)
set_option maxRecDepth 100000 in
set_option maxHeartbeats 1000000 in
theorem spoil_net (y : Yt) (n : NtM) (D : Nat) (i d j : Int) (t : UInt8) (w : World) (h : NetR w y n) (hok : NOk n D 0) (hD : D ≤ 900000000) :
 Calls Tryz.prog 58 #[.pointer (some ⟨y.N, 0, none⟩), .int .i64 i, .int .i64 d, .int .i64 j, .int .u8 (t.toNat : Int)] w fun e w' => e = .returned (errV (n.spoil i d j t).2) ∧ WentN w w' y (n.spoil i d j t).1 n.n := by
 have hh := hasWay_any y n i d w h
 rcases hasW_cases i d n.nc with ⟨hn, hi⟩ | ⟨c, k, hc, hk, rfl, rfl⟩
 · have hE : n.spoil i d j t = (n, 6) := by unfold NtM.spoil; rw [if_pos hi]
   rw [hE]
   rw [hn] at hh
   have HW : Hid _ := WentN.refl h
   clear h hok
   go_enter Tryz.func58, Tryz.ntmps58
   go_wp2_with (fail)
   refine hh.mono ?_
   rintro e w1 ⟨rfl, rfl⟩
   clear hh
   go_wp2_with (fail)
   go_ret
   exact ⟨rfl, HW.out⟩
 · rw [hasW_yes hc hk] at hh
   have c3 := h.k3
   obtain ⟨a, cp, hcv, hgc⟩ := h.cvs
   obtain ⟨g, hg, rfl⟩ := hgc c hc
   rw [hcv] at c3
   have cl := h.Nlt
   have c9 := h.c9
   have hc' : (c : Int) < (n.nc : Int) := by omega
   have hc0 : (0 : Int) ≤ (c : Int) := by omega
   have hk' : (k : Int) < 2 := by omega
   have hk0 : (0 : Int) ≤ (k : Int) := by omega
   have gl := h.at_lt (l := .C) hg
   obtain ⟨a2, cp2, hov, k5⟩ := h.onc hc hk hg
   by_cases hj : j < 0 ∨ ((((n.C c).on k).length : Nat) : Int) ≤ j
   · have hE : n.spoil (c : Int) (k : Int) j t = (n, 1) := by
      unfold NtM.spoil
      rw [if_neg (by omega), Int.toNat_natCast, Int.toNat_natCast, if_pos hj]
     rw [hE]
     have HW : Hid _ := WentN.refl h
     clear h hok hE hcv hgc hov
     generalize ((n.C c).on k).length = L at hj k5
     by_cases hj0 : j < 0
     · clear hj
       go_enter Tryz.func58, Tryz.ntmps58
       go_wp2_with (fail)
       refine hh.mono ?_
       rintro e w1 ⟨rfl, rfl⟩
       clear hh
       go_wp2_with (fail)
       go_ret
       exact ⟨rfl, HW.out⟩
     · have hjL : (L : Int) ≤ j := by omega
       clear hj
       go_enter Tryz.func58, Tryz.ntmps58
       go_wp2_with (fail)
       refine hh.mono ?_
       rintro e w1 ⟨rfl, rfl⟩
       clear hh
       go_wp2_with (fail)
       go_ret
       exact ⟨rfl, HW.out⟩
   · obtain ⟨q, rfl⟩ : ∃ q : Nat, j = (q : Int) := ⟨j.toNat, by omega⟩
     have hq : q < ((n.C c).on k).length := by omega
     have hE : n.spoil (c : Int) (k : Int) (q : Int) t = ((n.setC c { n.C c with on := upN (n.C c).on k (((n.C c).on k).set q (((n.C c).on k).getD q 0 ^^^ t)) }).gather, 0) := by
      unfold NtM.spoil
      rw [if_neg (by omega), Int.toNat_natCast, Int.toNat_natCast, if_neg hj, Int.toNat_natCast]
     rw [hE]
     have e0 : errV 0 = .nilIface := rfl
     rw [e0]
     have hrow := h.ob c k hc hk
     rw [hov] at hrow
     have hex : ∃ g2, a2 = some ⟨g2, 0, none⟩ := by
      rcases hrow.2 with ⟨_, e2⟩ | ⟨g', c', e, _⟩
      · omega
      · exact ⟨g', (Value.slice.inj e).1⟩
     obtain ⟨g2, rfl⟩ := hex
     obtain ⟨ch, hch⟩ : ∃ ch, ((n.C c).on k).getD q 0 = ch := ⟨_, rfl⟩
     have hcell : w.cell? ⟨g2, q, none⟩ = some (.int .u8 (ch.toNat : Int)) := by
      refine Row.cell hrow q _ ?_
      rw [cells8_get _ q hq, ← hch]
      simp [List.getD_eq_getElem?_getD, hq]
     have hfz : w.frozen? ⟨g2, q, none⟩ = false := by
      rcases hrow.2 with ⟨_, e2⟩ | ⟨g', c', e, _, hn1, _, _, hsp⟩
      · omega
      · simp at e
        obtain ⟨rfl, rfl⟩ := e
        exact (hsp q (by omega)).2
     have g2l := World.block_lt_of_cell? _ _ hcell
     have hx := xor8 ch t
     have hW1 := h.spoilt hc hk hg hq hov (ch ^^^ t)
     rw [hch]
     have hok1 : NOk (n.setC c { n.C c with on := upN (n.C c).on k (((n.C c).on k).set q (ch ^^^ t)) }) D 0 := hok.setC (fun _ => rfl) (fun hc d' hd' => by
      show (upN (n.C c).on k _ d').length ≤ _
      by_cases e : d' = k
      · subst e; rw [upN_same, List.length_set]; exact hok.ol _ _ hc hd'
      · rw [upN_other _ _ e]; exact hok.ol _ d' hc hd')
     obtain ⟨M, hM⟩ : ∃ M, n.setC c { n.C c with on := upN (n.C c).on k (((n.C c).on k).set q (ch ^^^ t)) } = M := ⟨_, rfl⟩
     rw [hM] at hok1 hW1 ⊢
     have hg1 : Hid (Calls Tryz.prog 111 #[.pointer (some ⟨y.N, 0, none⟩)] (w.setCell ⟨g2, q, none⟩ (.int .u8 ((ch ^^^ t).toNat : Int))) fun e w' => e = .returned (.tuple #[]) ∧ WentN w w' y M.gather n.n) := by
      refine hW1.call fun y1 R1 s1 => ?_
      rw [← s1.N]
      have := gather_any y1 M D 0 _ R1 hok1 (by omega) (by omega)
      rw [show M.n = n.n by rw [← hM]; rfl] at this
      exact this
     have hqL : (q : Int) < ((((n.C c).on k).length : Nat) : Int) := by omega
     have hq0 : (0 : Int) ≤ (q : Int) := by omega
     generalize ((n.C c).on k).length = L at hqL k5
     clear h hok hE hcv hgc hov hj hq hrow hch hW1 hok1 hM
     go_enter Tryz.func58, Tryz.ntmps58
     go_wp2_with (fail)
     refine hh.mono ?_
     rintro e w1 ⟨rfl, rfl⟩
     clear hh
     go_wp2_with (fail)
     refine hg1.out.mono ?_
     rintro e w2 ⟨rfl, hw2⟩
     have HW : Hid _ := hw2
     clear hg1 hw2
     go_wp2_with (fail)
     go_ret
     exact ⟨rfl, HW.out⟩
end Rt
end Go.Proofs.YtieklnlbljejdaaGreatDoor
