/-
  NtNewN
-/
import Derived.Test.YtieklnlbljejdaaGreatDoorG47
namespace Go.Proofs.YtieklnlbljejdaaGreatDoor
open Go.RowKit St
namespace Rt
theorem mkBox1 (W : World) : (Instr.makeSlice 75 (.int .i64 1) (.int .i64 1)).run Tryz.prog W = .ok (.slice (some ⟨W.heap.size, 0, none⟩) 1 1) (W.alloc (.cells (nilRow 1) 53)) := by kernel_rfl
theorem mkBox2 (W : World) : (Instr.makeSlice 75 (.int .i64 2) (.int .i64 2)).run Tryz.prog W = .ok (.slice (some ⟨W.heap.size, 0, none⟩) 2 2) (W.alloc (.cells (nilRow 2) 53)) := by kernel_rfl
theorem mkBox3 (W : World) : (Instr.makeSlice 75 (.int .i64 3) (.int .i64 3)).run Tryz.prog W = .ok (.slice (some ⟨W.heap.size, 0, none⟩) 3 3) (W.alloc (.cells (nilRow 3) 53)) := by kernel_rfl
theorem mkBox4 (W : World) : (Instr.makeSlice 75 (.int .i64 4) (.int .i64 4)).run Tryz.prog W = .ok (.slice (some ⟨W.heap.size, 0, none⟩) 4 4) (W.alloc (.cells (nilRow 4) 53)) := by kernel_rfl
theorem mkBox5 (W : World) : (Instr.makeSlice 75 (.int .i64 5) (.int .i64 5)).run Tryz.prog W = .ok (.slice (some ⟨W.heap.size, 0, none⟩) 5 5) (W.alloc (.cells (nilRow 5) 53)) := by kernel_rfl
theorem mkBox6 (W : World) : (Instr.makeSlice 75 (.int .i64 6) (.int .i64 6)).run Tryz.prog W = .ok (.slice (some ⟨W.heap.size, 0, none⟩) 6 6) (W.alloc (.cells (nilRow 6) 53)) := by kernel_rfl
theorem mkBox (p : Nat) (hp : 1 ≤ p ∧ p ≤ 6) (W : World) : (Instr.makeSlice 75 (.int .i64 (p : Int)) (.int .i64 (p : Int))).run Tryz.prog W = .ok (.slice (some ⟨W.heap.size, 0, none⟩) p p) (W.alloc (.cells (nilRow p) 53)) := by
 have : p = 1 ∨ p = 2 ∨ p = 3 ∨ p = 4 ∨ p = 5 ∨ p = 6 := by omega
 rcases this with rfl | rfl | rfl | rfl | rfl | rfl
 · exact mkBox1 W
 · exact mkBox2 W
 · exact mkBox3 W
 · exact mkBox4 W
 · exact mkBox5 W
 · exact mkBox6 W
theorem infoPtr : (Tryz.prog.info? 26).map (fun i => (i.zero, i.size, i.bytes)) = some (some (.pointer none), 1, 8) := by kernel_rfl
theorem infoCable : (Tryz.prog.info? 197).map (fun i => (i.zero, i.size, i.bytes)) = some (some (.agg #[.int .i64 0, .int .i64 0, .int .i64 0, .int .i64 0, .bool false, .slice none 0 0, .slice none 0 0]), 7, 88) := by kernel_rfl
theorem sizeCab : (Tryz.prog.info? 81).map (·.size) = some 5 := by kernel_rfl
theorem one_ptr (p : Option Addr) : ∀ u ∈ [Value.pointer p], u.oneCell' = true := by simp [Value.oneCell']
theorem cells_seven (w : World) (c : Cab) (C : Array Value) (t : TypeId) (g : Nat) (hg : w.heap.size = g) (hC : C.toList = cabC [c] := by rfl) : ∀ (j : Nat) (u : Value), (cabC [c])[j]? = some u → (w.alloc (.cells C t)).cell? ((⟨g, 0, none⟩ : Addr).add j) = some u := by
 subst hg
 intro j u hu
 rw [add_plain, World.cell?_alloc_mark, ← hu, ← hC]
 simp
def NewP (w : World) (many : Int) (L : List Cab) (X : Nat → Prop) (e : Ending) (w' : World) : Prop :=
 (netF many L ≠ 0 → e = .returned (.tuple #[.pointer none, errV (netF many L)])) ∧ (netF many L = 0 → ∃ y, e = .returned (.tuple #[.pointer (some ⟨y.N, 0, none⟩), .nilIface]) ∧ NetR w' y (newNt many.toNat L) ∧ (∀ b, y.all many.toNat b → w.heap.size ≤ b) ∧ ∀ b, y.ext b ↔ X b) ∧ Below w.heap.size w w'
set_option maxRecDepth 100000 in
set_option maxHeartbeats 8000000 in
theorem new_net (many : Int) (a : Option Addr) (cap : Nat) (L : List Cab) (w : World) (hL : CabR w a L) (hl : L.length ≤ 1000) (hT : TabOk w) (X : Nat → Prop) (hX : ∀ b, X b → b < w.heap.size) :
 Calls Tryz.prog 36 #[.int .i64 many, .slice a L.length cap] w fun e w' => NewP w many L X e w' := by
 have hm := metricsOf_any many a cap L w hL hl
 by_cases h0 : netF many L = 0
 · have hok := netF_ok h0
   have hm6 := hok.m
   obtain ⟨m, hme⟩ : ∃ m : Nat, many = (m : Int) := ⟨many.toNat, by omega⟩
   subst hme
   have hmt : ((m : Int)).toNat = m := Int.toNat_natCast m
   have hm2 : Calls Tryz.prog 95 #[.int .i64 (m : Int), .slice a L.length cap] w fun e w' => ∃ b, e = .returned (.tuple #[.map (some b), .nilIface]) ∧ EMap w' b (cabEs L) ∧ EOk (cabEs L) ∧ w.heap.size ≤ b ∧ Below w.heap.size w w' := by
    refine hm.mono ?_
    rintro e w1 ⟨_, h2, hb⟩
    obtain ⟨b, h3, h4, h5, h6⟩ := h2 h0
    exact ⟨b, h3, h4, h5, h6, hb⟩
   have HL : Hid _ := hL
   have HOk : Hid _ := hok
   have HT : Hid _ := hT
   have H00 : Hid _ := h0
   obtain ⟨i1, hi1, hz10, hz11, hz12⟩ := info_parts infoPtr
   obtain ⟨i2, hi2, hz20, hz21, hz22⟩ := info_parts infoCable
   obtain ⟨n, hn⟩ : ∃ n, L.length = n := ⟨_, rfl⟩
   have HN : Hid _ := hn
   have hl9 := hok.l
   rw [hn] at hm2 hl9 ⊢
   have hm1 : 1 ≤ m := by omega
   have hm6 : m ≤ 6 := by omega
   have hmk := mkBox m ⟨hm1, hm6⟩
   clear hm hL hok hT hl h0 hn
   go_enter Tryz.func36, Tryz.ntmps36
   go_wp2_with (fail)
   refine hm2.mono ?_
   rintro e w1 ⟨bM, rfl, hE, hEO, hbM, hb1⟩
   have HE : Hid _ := hE
   have HEO : Hid _ := hEO
   have HB1 : Hid _ := hb1
   clear hm2 hE hEO hb1
   go_wp2_with (fail)
   have hN1 : (w1.alloc (.cells (nilRow m) 53)).heap.size = w1.heap.size + 1 := by simp
   obtain ⟨W2, hW2⟩ : ∃ W2, (w1.alloc (.cells (nilRow m) 53)).alloc (.cells #[.slice none 0 0, .slice (some ⟨w1.heap.size, 0, none⟩) m m, .map (some bM), .slice none 0 0] 190) = W2 := ⟨_, rfl⟩
   have hbb : Below w1.heap.size w1 W2 := by rw [← hW2]; exact (below_alloc _ _).alloc (by simp) _
   have hM0 : MkN w W2 (w1.heap.size + 1) w1.heap.size bM m (cabEs L) (msOf L) 0 0 L (.slice none 0 0) (.slice none 0 0) (fun _ => 0) (fun _ => 0) (fun _ => 0) := by
    have hs1 := HB1.out.size
    have hbl : bM < w1.heap.size := by
     obtain ⟨es, clock, h1, _⟩ := HE.out
     exact (Array.getElem?_eq_some_iff.1 h1).1
    refine ⟨below_chain HB1.out hbb, ?_, ?_, EMap.keep HE.out (hbb.block bM hbl), Row.nil _ _, Row.nil _ _, ⟨by omega, by omega, by omega, by omega, by omega, hbM⟩, fun k e => by simp [Value.ownBlock] at e, fun k e => by simp [Value.ownBlock] at e, fun i hi => by omega, fun i hi => by omega, fun i k _ hk => by omega, fun i hi => by omega⟩
    · have h1 : Blk W2 ((w1.alloc (.cells (nilRow m) 53)).heap.size) #[.slice none 0 0, .slice (some ⟨w1.heap.size, 0, none⟩) m m, .map (some bM), .slice none 0 0] 190 := by rw [← hW2]; exact Blk.new _ _ _
      rw [hN1] at h1
      exact h1
    · have h1 : Blk (w1.alloc (.cells (nilRow m) 53)) w1.heap.size (nilRow m) 53 := Blk.new w1 _ _
      rw [← hW2]
      exact h1.below (below_alloc _ _)
   obtain ⟨N, hNe⟩ : ∃ N, w1.heap.size + 1 = N := ⟨_, rfl⟩
   obtain ⟨gI, hgI⟩ : ∃ gI, w1.heap.size = gI := ⟨_, rfl⟩
   rw [hNe, hgI] at hM0
   have HM0 : Hid _ := hM0
   have HW2 : Hid _ := hW2
   have HNe : Hid _ := hNe
   have HgI : Hid _ := hgI
   clear hW2 hbb hM0 hNe hgI hN1
   rw [HW2.out]
   try rw [HNe.out]
   try rw [HgI.out]
   go_loopw [29] (fun x wr => ∃ (q : Nat) (v : Value) (P lo hi : Nat → Nat), q ≤ m ∧ x = .int .i64 q ∧ MkN w wr N gI bM m (cabEs L) (msOf L) q 0 L v (.slice none 0 0) P lo hi) (fun x _ => m - (intOf x).toNat)
   case atStart => exact ⟨0, _, _, _, _, Nat.zero_le _, rfl, HM0.out⟩
   case round =>
    obtain ⟨q, v, P, lo, hi, hq, rfl, hM⟩ := hrel
    obtain ⟨V, rfl⟩ : ∃ V, V = wr := ⟨_, rfl⟩
    by_cases hlt : q < m
    · have hlt' : (q : Int) < (m : Int) := by omega
      have hwr : IntKind.i64.wrap ((q : Int) + 1) = (q : Int) + 1 := IntWalk.i64_in _ ⟨by omega, by omega⟩
      have hnr := newRouter_any N bM q (cabEs L) (msOf L q) V (hM.nb.cell 2) hM.mp HEO.out (by omega) (fun p _ => ⟨rfl, HOk.out.ms q p⟩) (TabOk.below (w := w) HT.out hM.bel) (fun b => b < V.heap.size) (fun b e => e)
      have HM : Hid _ := hM
      clear hM
      go_wp2_with (fail)
      refine hnr.mono ?_
      rintro e w3 ⟨z, rfl, hz1, hb3, hz3, hz4, hz5, hz6⟩
      have hM3 := HM.out.below hb3
      have c0 : w3.cell? ⟨N, 0, none⟩ = some v := hM3.nb.cell 0
      have Nl := hM3.Nlt
      have hrow := hM3.row
      have HZ : Hid (RtR w3 z (newRt ((q : Int) + 1) 3 (msOf L q)) ∧ Below V.heap.size V w3 ∧ (∀ b, z.foot b → V.heap.size ≤ b) ∧ ∀ b, b < V.heap.size → z.fm.no b) := by
       refine ⟨hz1, hb3, fun b hb => ?_, hz6⟩
       rcases hb with e | e | e
       · exact hz3 b e
       · rw [e]; exact hz4
       · exact hz5 b e
      have HM3 : Hid _ := hM3
      clear hnr hz1 hb3 hz3 hz4 hz5 hz6 hM3
      go_wp2_with (at_builtin; go_must (refine wpList_append_row _ rfl (.tmp 46) (.tmp 48) 187 rfl 26 i1 (.pointer none) 1 8 Tryz.underlying187 hi1 hz10 hz11 hz12 rfl (by decide) v q (ptrsV P q) rfl (hrow.alloc _) _ 1 1 [.pointer (some ⟨z.R, 0, none⟩)] rfl rfl (by decide) (cells_one _ _ _) (one_ptr _) (by unfold maxLen; omega) (by omega) ?_))
      intro g' cap' w4 hr4 hg4 ho4
      have hNv : v.ownBlock ≠ some N := fun e => (HM3.out.fv N e).2.1 rfl
      have hB4 : Blk w4 N #[v, .slice (some ⟨gI, 0, none⟩) m m, .map (some bM), .slice none 0 0] 190 := HM3.out.nb.keep ((hg4.block N (by simp; have := HM3.out.Nlt; omega) (fun e => hNv e.symm)).trans (Below.heap_alloc _ _ _ HM3.out.Nlt))
      have c4 : w4.cell? ⟨N, 0, none⟩ = some v := hB4.cell 0
      have f4 := hB4.frozen 0
      have l4 := hB4.lt
      have HAdd : Hid (MkN w (w4.setCell ⟨N, 0, none⟩ (.slice (some ⟨g', 0, none⟩) (q + 1) cap')) N gI bM m (cabEs L) (msOf L) (q + 1) 0 L (.slice (some ⟨g', 0, none⟩) (q + 1) cap') (.slice none 0 0) (upN P q z.R) (upN lo q V.heap.size) (upN hi q w3.heap.size)) := by
       obtain ⟨a1, a2, a3, a4⟩ := HZ.out
       refine MkN.router HM.out a1 a2 a3 a4 hr4 hg4 (fun k hk => ?_)
       have hkk : g' = k := by simpa [Value.ownBlock] using hk
       subst hkk
       rcases ho4 with e | e
       · exact .inl e
       · right
         have : (w3.alloc (.cells #[.pointer (some ⟨z.R, 0, none⟩)] 26)).heap.size = w3.heap.size + 1 := by simp
         omega
      clear hr4 hg4 ho4 hB4 hNv hrow c0 Nl
      go_wp2_with (fail)
      go_roundw
      case rel => exact ⟨q + 1, _, _, _, _, by omega, by go_num, HAdd.out⟩
      case measure => simp [intOf]; omega
    · have hge : ¬ (q : Int) < (m : Int) := by omega
      obtain rfl : q = m := by omega
      have HMq : Hid (MkN w V N gI bM q (cabEs L) (msOf L) q 0 L v (.slice none 0 0) P lo hi) := hM
      clear hM
      go_wp2_with (fail)
      go_loopw [55] (fun x wr => ∃ (j : Nat) (v2 : Value), j ≤ n ∧ x = .int .i64 j ∧ MkN w wr N gI bM q (cabEs L) (msOf L) q j L v v2 P lo hi) (fun x _ => n - (intOf x).toNat)
      case atStart => exact ⟨0, _, Nat.zero_le _, rfl, HMq.out⟩
      case round =>
      obtain ⟨j, v2, hj, rfl, hM⟩ := hrel
      obtain ⟨V2, rfl⟩ : ∃ V2, V2 = wr := ⟨_, rfl⟩
      by_cases hjl : j < n
      · have hjl' : (j : Int) < (n : Int) := by omega
        have hj0 : (0 : Int) ≤ (j : Int) := by omega
        have hjL : j < L.length := by rw [HN.out]; exact hjl
        obtain ⟨b, off, rfl, k0, k1, k2, k3, k4⟩ := CabR.below (w := w) HL.out hM.bel j hjL
        have bl := World.block_lt_of_cell? _ _ k0
        have HTk : Hid (L.take (j + 1) = L.take j ++ [L[j]]) := by
         show _ = _
         rw [List.take_succ_eq_append_getElem hjL]
        generalize L[j] = c at k0 k1 k2 k3 k4 HTk
        obtain ⟨ca, cpa, cb, cpb, cm⟩ := c
        have hb1 := below_alloc V2 (.cells #[.int .i64 ca, .int .i64 cpa, .int .i64 cb, .int .i64 cpb, .int .i64 cm] 81)
        have hBY : Blk (V2.alloc (.cells #[.int .i64 ca, .int .i64 cpa, .int .i64 cb, .int .i64 cpb, .int .i64 cm] 81)) V2.heap.size #[.int .i64 ca, .int .i64 cpa, .int .i64 cb, .int .i64 cpb, .int .i64 cm] 81 := Blk.new V2 _ _
        obtain ⟨W1, hW1⟩ : ∃ W1, V2.alloc (.cells #[.int .i64 ca, .int .i64 cpa, .int .i64 cb, .int .i64 cpb, .int .i64 cm] 81) = W1 := ⟨_, rfl⟩
        obtain ⟨Y, hY⟩ : ∃ Y, V2.heap.size = Y := ⟨_, rfl⟩
        have hMW := hM.below hb1
        have HYo : Hid (v2.ownBlock ≠ some Y) := fun e => by have := hM.row2.lt Y e; omega
        have HYN : Hid (Y ≠ N) := fun e => by have := hM.Nlt; omega
        rw [hW1] at hBY hMW
        rw [hY] at hBY
        have HM : Hid _ := hMW
        have hV0 : Blk W1.drew Y #[.int .i64 ca, .int .i64 cpa, .int .i64 cb, .int .i64 cpb, .int .i64 cm] 81 := hBY.drew
        have c3a : W1.drew.cell? ⟨N, 3, none⟩ = some v2 := hMW.nb.cell 3
        have Nl0 : N < W1.drew.heap.size := hMW.Nlt
        have hst : ∀ wS : World, Blk wS Y #[.int .i64 ca, .int .i64 cpa, .int .i64 cb, .int .i64 cpb, .int .i64 cm] 81 → (Instr.loadAt 81 (.pointer (some ⟨Y, 0, none⟩))).run Tryz.prog wS = .ok (.agg #[.int .i64 ca, .int .i64 cpa, .int .i64 cb, .int .i64 cpb, .int .i64 cm]) wS := fun wS hS => by
         simp only [Instr.loadAt, Instr.sureAddr, Sem.run_bind, Sem.run_pure, Result.andThen]
         exact run_loadVar_row wS Y 81 81 _ (0, 0) _ hS Tryz.underlying81 rfl sizeCab
        have hends := endsOf_any ca cpa cb cpb cm W1.drew
        have HW1 : Hid _ := hW1
        have HY : Hid _ := hY
        clear hM hMW hb1 hBY hW1 hY
        go_wp2_with (fail)
        rw [HW1.out]
        try rw [HY.out]
        refine wp_region_held_drew (S := fun x => Blk x Y #[.int .i64 ca, .int .i64 cpa, .int .i64 cb, .int .i64 cpb, .int .i64 cm] 81) (by kernel_rfl) hV0 (fun hHeld => ?_)
        refine rt_yes 0 (some 59) rfl rfl (by kernel_rfl) (by kernel_rfl) (by kernel_rfl) (fun _ _ _ h => h) (by rfl) (v := ?_) ?_ (by assumption) ?_
        rotate_left
        · intro wS hSw
          (try dsimp only at hSw)
          go_simp
          try with_reducible rfl
        simp only [Act.put, List.setIfInBounds_toArray, List.set_cons_zero, List.set_cons_succ]
        refine rt_yes 1 (some 60) rfl rfl (by kernel_rfl) (by kernel_rfl) (by kernel_rfl) (fun _ _ _ h => h) (by rfl) (v := ?_) ?_ (by assumption) ?_
        rotate_left
        · intro wS hSw
          (try dsimp only at hSw)
          go_simp
          try with_reducible rfl
        simp only [Act.put, List.setIfInBounds_toArray, List.set_cons_zero, List.set_cons_succ]
        refine rt_yes 2 (some 61) rfl rfl (by kernel_rfl) (by kernel_rfl) (by kernel_rfl) (fun _ _ _ h => h) (by rfl) (v := ?_) ?_ (by assumption) ?_
        rotate_left
        · intro wS hSw
          (try dsimp only at hSw)
          go_simp
          try with_reducible rfl
        simp only [Act.put, List.setIfInBounds_toArray, List.set_cons_zero, List.set_cons_succ]
        refine rt_yes 3 (some 62) rfl rfl (by kernel_rfl) (by kernel_rfl) (by kernel_rfl) (fun _ _ _ h => h) (by rfl) (v := ?_) ?_ (by assumption) ?_
        rotate_left
        · intro wS hSw
          (try dsimp only at hSw)
          go_simp
          try with_reducible rfl
        simp only [Act.put, List.setIfInBounds_toArray, List.set_cons_zero, List.set_cons_succ]
        refine rt_yes 5 (some 64) rfl rfl (by kernel_rfl) (by kernel_rfl) (by kernel_rfl) (fun _ _ _ h => h) (by rfl) (v := .agg #[.int .i64 ca, .int .i64 cpa, .int .i64 cb, .int .i64 cpb, .int .i64 cm]) ?_ (by assumption) ?_
        · intro wS hSw
          have h7 := hst wS hSw
          simp [execOp, Act.eval, h7]
        simp only [Act.put, List.setIfInBounds_toArray, List.set_cons_zero, List.set_cons_succ]
        refine wpAnyH_ready (rs := [4, 6]) (by kernel_rfl) (by simp) ?_
        refine AllReadyH.cons (o := _) rfl (fun K hK => ?_) (AllReadyH.cons (o := _) rfl (fun K hK => ?_) AllReadyH.nil)
        · go_simp
          (try go_wp2_with (fail))
          refine hK.out _ _ (by exact hV0) (fun hHeld => ?_)
          clear hK K
          refine wpAnyH_ready (rs := [6]) (by kernel_rfl) (by simp) ?_
          refine AllReadyH.cons (o := _) rfl (fun K hK => ?_) AllReadyH.nil
          go_simp
          refine hends.mono ?_
          rintro e w1 ⟨rfl, be⟩
          have hM1 := HM.out.below (below_chain (below_d _) be)
          have hV1 := hV0.below be
          have c3b : w1.cell? ⟨N, 3, none⟩ = some v2 := hM1.nb.cell 3
          have Nl1 := hM1.Nlt
          (try go_wp2_with (fail))
          refine hK.out _ _ (by exact hV1) (fun hHeld => ?_)
          clear hK K
          refine rt_yes 7 (some 66) rfl rfl (by kernel_rfl) (by kernel_rfl) (by kernel_rfl) (fun _ _ _ h => h) (by rfl) (v := ?_) ?_ (by assumption) ?_
          rotate_left
          · intro wS hSw
            (try dsimp only at hSw)
            go_simp
            try with_reducible rfl
          simp only [Act.put, List.setIfInBounds_toArray, List.set_cons_zero, List.set_cons_succ]
          refine wpAnyH_ready (rs := [8]) (by kernel_rfl) (by simp) ?_
          refine AllReadyH.cons (o := _) rfl (fun K hK => ?_) AllReadyH.nil
          go_simp
          have hV2 := Blk.below hV1 (below_alloc w1 (.cells #[.int .i64 ca, .int .i64 cpa, .int .i64 cb, .int .i64 cpb, .bool false, .slice none 0 0, .slice none 0 0] 197))
          have hM2 := hM1.below (below_alloc w1 (.cells #[.int .i64 ca, .int .i64 cpa, .int .i64 cb, .int .i64 cpb, .bool false, .slice none 0 0, .slice none 0 0] 197))
          have c3c : (w1.alloc (.cells #[.int .i64 ca, .int .i64 cpa, .int .i64 cb, .int .i64 cpb, .bool false, .slice none 0 0, .slice none 0 0] 197)).cell? ⟨N, 3, none⟩ = some v2 := hM2.nb.cell 3
          have Nl2 := hM2.Nlt
          (try go_wp2_with (fail))
          refine hK.out _ _ (by exact hV2) (fun hHeld => ?_)
          clear hK K
          refine wpAnyH_ready (rs := [9]) (by kernel_rfl) (by simp) ?_
          refine AllReadyH.cons (o := _) rfl (fun K hK => ?_) AllReadyH.nil
          refine step_append_row (by rfl) (.tmp 63) (.tmp 67) 188 (by rfl) 197 i2 (.agg #[.int .i64 0, .int .i64 0, .int .i64 0, .int .i64 0, .bool false, .slice none 0 0, .slice none 0 0]) 7 88 Tryz.underlying188 hi2 hz20 hz21 hz22 (by rfl) (by decide) v2 j (cabC (L.take j)) (by rfl) hM2.row2 _ 1 1 (cabC [⟨ca, cpa, cb, cpb, cm⟩]) (by rfl) (by rfl) (by decide) (cells_seven _ _ _ _ _ rfl) (cabC_one _) (by unfold maxLen; omega) (by omega) ?_
          intro g' cap' x1 hr1 hg1 hown1
          have hx2 : Blk x1 N _ 190 := hM2.nb.keep (hg1.block N hM2.Nlt (fun e => (hM2.fv2 N e.symm).2.1 rfl))
          have hV3 : Blk x1 Y _ 81 := hV2.keep (hg1.block Y hV2.lt (fun e => HYo.out e.symm))
          have c3d : x1.cell? ⟨N, 3, none⟩ = some v2 := hx2.cell 3
          have f3d := hx2.frozen 3
          have Nl3 := hx2.lt
          refine hK.out _ _ (by exact hV3) (fun hHeld => ?_)
          clear hK K
          refine rt_yes 10 (some 69) rfl rfl (by kernel_rfl) (by kernel_rfl) (by kernel_rfl) (fun _ _ _ h => h) (by rfl) (v := ?_) ?_ (by assumption) ?_
          rotate_left
          · intro wS hSw
            (try dsimp only at hSw)
            go_simp
            try with_reducible rfl
          simp only [Act.put, List.setIfInBounds_toArray]
          refine rt_yes 11 (some 70) rfl rfl (by kernel_rfl) (by kernel_rfl) (by kernel_rfl) (fun _ _ _ h => h) (by rfl) (v := ?_) ?_ (by assumption) ?_
          rotate_left
          · intro wS hSw
            (try dsimp only at hSw)
            go_simp
            try with_reducible rfl
          simp only [Act.put]
          refine wpAnyH_ready (rs := [12]) (by kernel_rfl) (by simp) ?_
          refine AllReadyH.cons (o := _) rfl (fun K hK => ?_) AllReadyH.nil
          go_simp
          (try go_wp2_with (fail))
          refine hK.out _ _ (by exact hV3.other HYN.out _) (fun hHeld => ?_)
          clear hK K
          refine wpAnyH_done (by kernel_rfl) ?_ _
          have HAdd : Hid _ := MkN.cable hM2 (c := ⟨ca, cpa, cb, cpb, cm⟩) HTk.out hr1 hg1 (fun k hk => by
           have hkk : g' = k := by simpa [Value.ownBlock] using hk
           subst hkk
           exact hown1)
          clear hr1 hg1 hown1 hx2 hV3 c3d f3d Nl3 hM1 hM2 hV1 hV2
          go_wp2_with (fail)
          go_roundw
          case rel => exact ⟨j + 1, _, by omega, by go_num, HAdd.out⟩
          case measure => simp [intOf]; omega
        · go_simp
          refine hends.mono ?_
          rintro e w1 ⟨rfl, be⟩
          have hM1 := HM.out.below (below_chain (below_d _) be)
          have hV1 := hV0.below be
          have c3b : w1.cell? ⟨N, 3, none⟩ = some v2 := hM1.nb.cell 3
          have Nl1 := hM1.Nlt
          (try go_wp2_with (fail))
          refine hK.out _ _ (by exact hV1) (fun hHeld => ?_)
          clear hK K
          refine rt_yes 7 (some 66) rfl rfl (by kernel_rfl) (by kernel_rfl) (by kernel_rfl) (fun _ _ _ h => h) (by rfl) (v := ?_) ?_ (by assumption) ?_
          rotate_left
          · intro wS hSw
            (try dsimp only at hSw)
            go_simp
            try with_reducible rfl
          simp only [Act.put, List.setIfInBounds_toArray, List.set_cons_zero, List.set_cons_succ]
          refine wpAnyH_ready (rs := [4, 8]) (by kernel_rfl) (by simp) ?_
          refine AllReadyH.cons (o := _) rfl (fun K hK => ?_) (AllReadyH.cons (o := _) rfl (fun K hK => ?_) AllReadyH.nil)
          · go_simp
            (try go_wp2_with (fail))
            refine hK.out _ _ (by exact hV1) (fun hHeld => ?_)
            clear hK K
            refine wpAnyH_ready (rs := [8]) (by kernel_rfl) (by simp) ?_
            refine AllReadyH.cons (o := _) rfl (fun K hK => ?_) AllReadyH.nil
            go_simp
            have hV2 := Blk.below hV1 (below_alloc w1 (.cells #[.int .i64 ca, .int .i64 cpa, .int .i64 cb, .int .i64 cpb, .bool false, .slice none 0 0, .slice none 0 0] 197))
            have hM2 := hM1.below (below_alloc w1 (.cells #[.int .i64 ca, .int .i64 cpa, .int .i64 cb, .int .i64 cpb, .bool false, .slice none 0 0, .slice none 0 0] 197))
            have c3c : (w1.alloc (.cells #[.int .i64 ca, .int .i64 cpa, .int .i64 cb, .int .i64 cpb, .bool false, .slice none 0 0, .slice none 0 0] 197)).cell? ⟨N, 3, none⟩ = some v2 := hM2.nb.cell 3
            have Nl2 := hM2.Nlt
            (try go_wp2_with (fail))
            refine hK.out _ _ (by exact hV2) (fun hHeld => ?_)
            clear hK K
            refine wpAnyH_ready (rs := [9]) (by kernel_rfl) (by simp) ?_
            refine AllReadyH.cons (o := _) rfl (fun K hK => ?_) AllReadyH.nil
            refine step_append_row (by rfl) (.tmp 63) (.tmp 67) 188 (by rfl) 197 i2 (.agg #[.int .i64 0, .int .i64 0, .int .i64 0, .int .i64 0, .bool false, .slice none 0 0, .slice none 0 0]) 7 88 Tryz.underlying188 hi2 hz20 hz21 hz22 (by rfl) (by decide) v2 j (cabC (L.take j)) (by rfl) hM2.row2 _ 1 1 (cabC [⟨ca, cpa, cb, cpb, cm⟩]) (by rfl) (by rfl) (by decide) (cells_seven _ _ _ _ _ rfl) (cabC_one _) (by unfold maxLen; omega) (by omega) ?_
            intro g' cap' x1 hr1 hg1 hown1
            have hx2 : Blk x1 N _ 190 := hM2.nb.keep (hg1.block N hM2.Nlt (fun e => (hM2.fv2 N e.symm).2.1 rfl))
            have hV3 : Blk x1 Y _ 81 := hV2.keep (hg1.block Y hV2.lt (fun e => HYo.out e.symm))
            have c3d : x1.cell? ⟨N, 3, none⟩ = some v2 := hx2.cell 3
            have f3d := hx2.frozen 3
            have Nl3 := hx2.lt
            refine hK.out _ _ (by exact hV3) (fun hHeld => ?_)
            clear hK K
            refine rt_yes 10 (some 69) rfl rfl (by kernel_rfl) (by kernel_rfl) (by kernel_rfl) (fun _ _ _ h => h) (by rfl) (v := ?_) ?_ (by assumption) ?_
            rotate_left
            · intro wS hSw
              (try dsimp only at hSw)
              go_simp
              try with_reducible rfl
            simp only [Act.put, List.setIfInBounds_toArray]
            refine rt_yes 11 (some 70) rfl rfl (by kernel_rfl) (by kernel_rfl) (by kernel_rfl) (fun _ _ _ h => h) (by rfl) (v := ?_) ?_ (by assumption) ?_
            rotate_left
            · intro wS hSw
              (try dsimp only at hSw)
              go_simp
              try with_reducible rfl
            simp only [Act.put]
            refine wpAnyH_ready (rs := [12]) (by kernel_rfl) (by simp) ?_
            refine AllReadyH.cons (o := _) rfl (fun K hK => ?_) AllReadyH.nil
            go_simp
            (try go_wp2_with (fail))
            refine hK.out _ _ (by exact hV3.other HYN.out _) (fun hHeld => ?_)
            clear hK K
            refine wpAnyH_done (by kernel_rfl) ?_ _
            have HAdd : Hid _ := MkN.cable hM2 (c := ⟨ca, cpa, cb, cpb, cm⟩) HTk.out hr1 hg1 (fun k hk => by
             have hkk : g' = k := by simpa [Value.ownBlock] using hk
             subst hkk
             exact hown1)
            clear hr1 hg1 hown1 hx2 hV3 c3d f3d Nl3 hM1 hM2 hV1 hV2
            go_wp2_with (fail)
            go_roundw
            case rel => exact ⟨j + 1, _, by omega, by go_num, HAdd.out⟩
            case measure => simp [intOf]; omega
          · go_simp
            have hV2 := Blk.below hV1 (below_alloc w1 (.cells #[.int .i64 ca, .int .i64 cpa, .int .i64 cb, .int .i64 cpb, .bool false, .slice none 0 0, .slice none 0 0] 197))
            have hM2 := hM1.below (below_alloc w1 (.cells #[.int .i64 ca, .int .i64 cpa, .int .i64 cb, .int .i64 cpb, .bool false, .slice none 0 0, .slice none 0 0] 197))
            have c3c : (w1.alloc (.cells #[.int .i64 ca, .int .i64 cpa, .int .i64 cb, .int .i64 cpb, .bool false, .slice none 0 0, .slice none 0 0] 197)).cell? ⟨N, 3, none⟩ = some v2 := hM2.nb.cell 3
            have Nl2 := hM2.Nlt
            (try go_wp2_with (fail))
            refine hK.out _ _ (by exact hV2) (fun hHeld => ?_)
            clear hK K
            refine wpAnyH_ready (rs := [4]) (by kernel_rfl) (by simp) ?_
            refine AllReadyH.cons (o := _) rfl (fun K hK => ?_) AllReadyH.nil
            go_simp
            (try go_wp2_with (fail))
            refine hK.out _ _ (by exact hV2) (fun hHeld => ?_)
            clear hK K
            refine wpAnyH_ready (rs := [9]) (by kernel_rfl) (by simp) ?_
            refine AllReadyH.cons (o := _) rfl (fun K hK => ?_) AllReadyH.nil
            refine step_append_row (by rfl) (.tmp 63) (.tmp 67) 188 (by rfl) 197 i2 (.agg #[.int .i64 0, .int .i64 0, .int .i64 0, .int .i64 0, .bool false, .slice none 0 0, .slice none 0 0]) 7 88 Tryz.underlying188 hi2 hz20 hz21 hz22 (by rfl) (by decide) v2 j (cabC (L.take j)) (by rfl) hM2.row2 _ 1 1 (cabC [⟨ca, cpa, cb, cpb, cm⟩]) (by rfl) (by rfl) (by decide) (cells_seven _ _ _ _ _ rfl) (cabC_one _) (by unfold maxLen; omega) (by omega) ?_
            intro g' cap' x1 hr1 hg1 hown1
            have hx2 : Blk x1 N _ 190 := hM2.nb.keep (hg1.block N hM2.Nlt (fun e => (hM2.fv2 N e.symm).2.1 rfl))
            have hV3 : Blk x1 Y _ 81 := hV2.keep (hg1.block Y hV2.lt (fun e => HYo.out e.symm))
            have c3d : x1.cell? ⟨N, 3, none⟩ = some v2 := hx2.cell 3
            have f3d := hx2.frozen 3
            have Nl3 := hx2.lt
            refine hK.out _ _ (by exact hV3) (fun hHeld => ?_)
            clear hK K
            refine rt_yes 10 (some 69) rfl rfl (by kernel_rfl) (by kernel_rfl) (by kernel_rfl) (fun _ _ _ h => h) (by rfl) (v := ?_) ?_ (by assumption) ?_
            rotate_left
            · intro wS hSw
              (try dsimp only at hSw)
              go_simp
              try with_reducible rfl
            simp only [Act.put, List.setIfInBounds_toArray]
            refine rt_yes 11 (some 70) rfl rfl (by kernel_rfl) (by kernel_rfl) (by kernel_rfl) (fun _ _ _ h => h) (by rfl) (v := ?_) ?_ (by assumption) ?_
            rotate_left
            · intro wS hSw
              (try dsimp only at hSw)
              go_simp
              try with_reducible rfl
            simp only [Act.put]
            refine wpAnyH_ready (rs := [12]) (by kernel_rfl) (by simp) ?_
            refine AllReadyH.cons (o := _) rfl (fun K hK => ?_) AllReadyH.nil
            go_simp
            (try go_wp2_with (fail))
            refine hK.out _ _ (by exact hV3.other HYN.out _) (fun hHeld => ?_)
            clear hK K
            refine wpAnyH_done (by kernel_rfl) ?_ _
            have HAdd : Hid _ := MkN.cable hM2 (c := ⟨ca, cpa, cb, cpb, cm⟩) HTk.out hr1 hg1 (fun k hk => by
             have hkk : g' = k := by simpa [Value.ownBlock] using hk
             subst hkk
             exact hown1)
            clear hr1 hg1 hown1 hx2 hV3 c3d f3d Nl3 hM1 hM2 hV1 hV2
            go_wp2_with (fail)
            go_roundw
            case rel => exact ⟨j + 1, _, by omega, by go_num, HAdd.out⟩
            case measure => simp [intOf]; omega
      · have hge2 : ¬ (j : Int) < (n : Int) := by omega
        obtain rfl : j = n := by omega
        have hfin : ∃ y, NetR V2 y (newNt ((q : Int)).toNat L) ∧ y.N = N ∧ (∀ b, y.all ((q : Int)).toNat b → w.heap.size ≤ b) ∧ ∀ b, y.ext b ↔ X b := by
         have hM2 : MkN w V2 N gI bM ((q : Int)).toNat (cabEs L) (msOf L) ((q : Int)).toNat L.length L v v2 P lo hi := by
          rw [hmt, HN.out]
          exact hM
         exact MkN.done (w := w) (many := (q : Int)) HOk.out HEO.out hM2 (TabOk.lt (w := w) HT.out) X hX
        have HF : Hid (NewP w (q : Int) L X (.returned (.tuple #[.pointer (some ⟨N, 0, none⟩), .nilIface])) V2) := by
         obtain ⟨y, y1, y2, y3, y4⟩ := hfin
         exact ⟨fun e => absurd H00.out e, fun _ => ⟨y, by rw [y2], y1, y3, y4⟩, hM.bel⟩
        clear hM hfin
        go_wp2_with (fail)
        go_ret2
        exact HF.out
 · have hm2 : Calls Tryz.prog 95 #[.int .i64 many, .slice a L.length cap] w fun e w' => e = .returned (.tuple #[.map none, errV (netF many L)]) ∧ Below w.heap.size w w' := by
    refine hm.mono ?_
    rintro e w1 ⟨h1, _, hb⟩
    exact ⟨h1 h0, hb⟩
   have ee : errV (netF many L) = .iface 128 (.int .i64 ((netF many L : Nat) : Int)) := by simp only [errV]; rw [if_neg h0]
   have HE : Hid _ := ee
   have H0 : Hid _ := h0
   rw [ee] at hm2
   generalize L.length = n at hm2 ⊢
   clear hm hL hT ee h0
   go_enter Tryz.func36, Tryz.ntmps36
   go_wp2_with (fail)
   refine hm2.mono ?_
   rintro e w1 ⟨rfl, hb⟩
   have HB : Hid _ := hb
   clear hm2 hb
   go_wp2_with (fail)
   go_ret2
   exact ⟨fun _ => by rw [HE.out]; rfl, fun e => absurd e H0.out, HB.out⟩
end Rt
end Go.Proofs.YtieklnlbljejdaaGreatDoor
