/-
  NtCheck
-/
import Derived.Test.YtieklnlbljejdaaGreatDoorG45
namespace Go.Proofs.YtieklnlbljejdaaGreatDoor
open Go.RowKit St
namespace Rt
theorem cabEs_snoc (l : List Cab) (c : Cab) : cabEs (l ++ [c]) = cabEs l ++ [(c.a, c.pa, c.m), (c.b, c.pb, c.m)] := by simp [cabEs]
theorem endOk_yes {many r p : Int} (h : endOk many r p = true) (h6 : many ≤ 6) : 1 ≤ r ∧ r ≤ 6 ∧ 0 ≤ p ∧ p ≤ 2 := by
 unfold endOk at h
 simp only [Bool.and_eq_true, decide_eq_true_eq] at h
 omega
def cabF1 (many : Int) (c : Cab) (E : List (Int × Int × Int)) : Nat :=
 if c.m < 1 ∨ 20 < c.m then 1
 else if endOk many c.a c.pa = false then 1
 else if (lookE E c.a c.pa).isSome = true then 8
 else if endOk many c.b c.pb = false then 1
 else if (lookE (E ++ [(c.a, c.pa, c.m)]) c.b c.pb).isSome = true then 8
 else 0
theorem cabF_cons (many : Int) (c : Cab) (l : List Cab) (E : List (Int × Int × Int)) : cabF many (c :: l) E = if cabF1 many c E ≠ 0 then cabF1 many c E else cabF many l (E ++ [(c.a, c.pa, c.m), (c.b, c.pb, c.m)]) := by
 conv => lhs; unfold cabF
 unfold cabF1
 split
 · rfl
 · split
   · rfl
   · split
     · rfl
     · split
       · rfl
       · split
         · rfl
         · rw [if_neg (by simp)]
def MetP (w : World) (many : Int) (L : List Cab) (e : Ending) (w' : World) : Prop := (netF many L ≠ 0 → e = .returned (.tuple #[.map none, errV (netF many L)])) ∧ (netF many L = 0 → ∃ b, e = .returned (.tuple #[.map (some b), .nilIface]) ∧ EMap w' b (cabEs L) ∧ EOk (cabEs L) ∧ w.heap.size ≤ b) ∧ Below w.heap.size w w'
theorem MetP.bad {w w' : World} {many : Int} {L : List Cab} {f : Nat} (hf : netF many L = f) (h0 : f ≠ 0) (hb : Below w.heap.size w w') : MetP w many L (.returned (.tuple #[.map none, errV f])) w' := ⟨fun _ => by rw [hf], fun e => absurd (hf.symm.trans e) h0, hb⟩
theorem MetP.good {w w' : World} {many : Int} {L : List Cab} {b : Nat} (hf : netF many L = 0) (hm : EMap w' b (cabEs L)) (hE : EOk (cabEs L)) (hb : w.heap.size ≤ b) (hB : Below w.heap.size w w') : MetP w many L (.returned (.tuple #[.map (some b), .nilIface])) w' := ⟨fun e => absurd hf e, fun _ => ⟨b, rfl, hm, hE, hb⟩, hB⟩
theorem mk_map2 (W : World) : (Instr.makeMap 184 none).run Tryz.prog W = .ok (.map (some W.heap.size)) (W.alloc (.map #[] 0)) := rfl
theorem endLook_any (w : World) (b : Nat) (E : List (Int × Int × Int)) (hE : EOk E) (many r p : Int) (h6 : many ≤ 6) (W : World) (hM : EMap W b E) (hb : w.heap.size ≤ b) (hB : Below w.heap.size w W) (hbl : b < W.heap.size) (Z Y : Nat) (m : Int) (hZ : W.cell? ⟨Z, 0, none⟩ = some (.int .i64 r) ∧ W.cell? ⟨Z, 1, none⟩ = some (.int .i64 p)) (hY : W.cell? ⟨Y, 4, none⟩ = some (.int .i64 m)) :
 Calls Tryz.prog 154 #[.agg #[.int .i64 r, .int .i64 p], .int .i64 many] W fun e w1 => e = .returned (.bool (endOk many r p)) ∧ Below w.heap.size w w1 ∧ (w1.cell? ⟨Z, 0, none⟩ = some (.int .i64 r) ∧ w1.cell? ⟨Z, 1, none⟩ = some (.int .i64 p)) ∧ w1.cell? ⟨Y, 4, none⟩ = some (.int .i64 m) ∧
  (endOk many r p = true → (Instr.lookup 184 (.map (some b)) (.agg #[.int .i64 r, .int .i64 p]) true).run Tryz.prog w1 = .ok (.tuple #[.int .i64 ((lookE E r p).getD 0), .bool (lookE E r p).isSome]) w1 ∧
    (lookE E r p = none → ∃ w2, (Instr.mapUpdate 184 (.map (some b)) (.agg #[.int .i64 r, .int .i64 p]) (.int .i64 m)).run Tryz.prog w1 = .ok () w2 ∧ EMap w2 b (E ++ [(r, p, m)]) ∧ EOk (E ++ [(r, p, m)]) ∧ Below w.heap.size w w2 ∧ w2.cell? ⟨Y, 4, none⟩ = some (.int .i64 m) ∧ b < w2.heap.size)) := by
 refine (mayBe_any r p many W).mono ?_
 rintro e w1 ⟨rfl, b1⟩
 have hZl := World.block_lt_of_cell? _ _ hZ.1
 have hYl := World.block_lt_of_cell? _ _ hY
 have y1 := (World.cell?_of_block (a := ⟨Y, 4, none⟩) (b1.block Y hYl)).trans hY
 have hM1 := hM.keep (b1.block b hbl)
 refine ⟨rfl, below_chain hB b1, ⟨(World.cell?_of_block (a := ⟨Z, 0, none⟩) (b1.block Z hZl)).trans hZ.1, (World.cell?_of_block (a := ⟨Z, 1, none⟩) (b1.block Z hZl)).trans hZ.2⟩, y1, fun hok => ?_⟩
 have hr := endOk_yes hok h6
 refine ⟨EMap.look hM1 hE hr, fun hn => ?_⟩
 obtain ⟨w2, g1, g2, g3, g4, g5, g6, g7⟩ := EMap.store (m := m) hM1 hE hr hn
 have hYb : Y ≠ b := fun e => by
  subst e
  obtain ⟨es, clock, h1, _⟩ := hM
  simp [World.cell?, h1] at hY
 have hB1 := below_chain hB b1
 refine ⟨w2, g1, g2, hE.snoc hr hn, ⟨g3.trans hB1.os, g4.trans hB1.tape, g5.trans hB1.output, by rw [g6]; exact hB1.size, fun k hk => ?_⟩, (World.cell?_of_block (a := ⟨Y, 4, none⟩) (g7 Y hYb)).trans y1, by rw [g6]; exact Nat.lt_of_lt_of_le hbl b1.size⟩
 have hkb : k ≠ b := by omega
 exact (g7 k hkb).trans (hB1.block k hk)
set_option maxRecDepth 100000 in
set_option maxHeartbeats 8000000 in
theorem metricsOf_any (many : Int) (a : Option Addr) (cap : Nat) (L : List Cab) (w : World) (hL : CabR w a L) (hl : L.length ≤ 1000) :
 Calls Tryz.prog 95 #[.int .i64 many, .slice a L.length cap] w fun e w' => MetP w many L e w' := by
 by_cases h1 : many < 1 ∨ 6 < many
 · have hE : netF many L = 1 := by unfold netF; rw [if_pos h1]
   have HF : Hid _ := MetP.bad hE (by decide) (Below.refl _ w)
   clear hL hE
   generalize L.length = n at hl ⊢
   by_cases h2 : many < 1
   · clear h1
     go_enter Tryz.func95, Tryz.ntmps95
     go_wp2_with (fail)
     go_ret2
     exact HF.out
   · have h3 : 6 < many := by omega
     clear h1
     go_enter Tryz.func95, Tryz.ntmps95
     go_wp2_with (fail)
     go_ret2
     exact HF.out
 · have h1a : ¬ many < 1 := by omega
   have h1b : ¬ 6 < many := by omega
   by_cases h9 : 9 < L.length
   · have hE : netF many L = 2 := by unfold netF; rw [if_neg h1, if_pos h9]
     have HF : Hid _ := MetP.bad hE (by decide) (Below.refl _ w)
     have h9' : (9 : Int) < (L.length : Int) := by omega
     clear hL hE h1
     generalize L.length = n at hl h9 h9' ⊢
     go_enter Tryz.func95, Tryz.ntmps95
     go_wp2_with (fail)
     go_ret2
     exact HF.out
   · have HE : Hid (netF many L = cabF many L []) := by show _ = _; unfold netF; rw [if_neg h1, if_neg h9]
     have h9' : ¬ (9 : Int) < (L.length : Int) := by omega
     have HL : Hid _ := hL
     obtain ⟨n, hn⟩ : ∃ n, L.length = n := ⟨_, rfl⟩
     have HN : Hid _ := hn
     have hM0 : EMap (w.alloc (.map #[] 0)) w.heap.size [] := ⟨#[], 0, heap_alloc_new w _, rfl⟩
     have hmk := mk_map2
     obtain ⟨bM, hbM⟩ : ∃ bM, w.heap.size = bM := ⟨_, rfl⟩
     have H0 : Hid (EMap (w.alloc (.map #[] 0)) bM (cabEs (L.take 0)) ∧ EOk (cabEs (L.take 0)) ∧ Below w.heap.size w (w.alloc (.map #[] 0)) ∧ bM < (w.alloc (.map #[] 0)).heap.size ∧ cabF many L [] = cabF many (L.drop 0) (cabEs (L.take 0))) := by
      rw [hbM] at hM0
      exact ⟨hM0, fun x hx => by simp [cabEs] at hx, below_alloc _ _, by rw [← hbM]; simp, rfl⟩
     have HbM : Hid _ := hbM
     rw [hn] at hl h9' ⊢
     clear hL h1 h9 hn hM0
     go_enter Tryz.func95, Tryz.ntmps95
     go_wp2_with (fail)
     try rw [HbM.out]
     go_loopw [27] (fun x wr => ∃ j : Nat, j ≤ n ∧ x = .int .i64 j ∧ EMap wr bM (cabEs (L.take j)) ∧ EOk (cabEs (L.take j)) ∧ Below w.heap.size w wr ∧ bM < wr.heap.size ∧ cabF many L [] = cabF many (L.drop j) (cabEs (L.take j))) (fun x _ => n - (intOf x).toNat)
     case atStart => exact ⟨0, Nat.zero_le _, rfl, H0.out⟩
     case round =>
      obtain ⟨j, hj, rfl, hm, hE, hB, hbl, hF⟩ := hrel
      obtain ⟨V, rfl⟩ : ∃ V, V = wr := ⟨_, rfl⟩
      by_cases hlt : j < n
      · have hlt' : (j : Int) < (n : Int) := by omega
        have hj0 : (0 : Int) ≤ (j : Int) := by omega
        have hjL : j < L.length := by rw [HN.out]; exact hlt
        obtain ⟨b, off, rfl, k0, k1, k2, k3, k4⟩ := CabR.below (w := w) HL.out hB j hjL
        have hd : L.drop j = L[j] :: L.drop (j + 1) := List.drop_eq_getElem_cons hjL
        have ht : cabEs (L.take (j + 1)) = cabEs (L.take j) ++ [(L[j].a, L[j].pa, L[j].m), (L[j].b, L[j].pb, L[j].m)] := by
         rw [List.take_succ_eq_append_getElem hjL, cabEs_snoc]
        rw [hd, cabF_cons] at hF
        generalize L[j] = c at k0 k1 k2 k3 k4 hF ht
        obtain ⟨E, hEe⟩ : ∃ E, cabEs (L.take j) = E := ⟨_, rfl⟩
        rw [hEe] at hm hE hF ht
        have HT : Hid _ := ht
        have HBad : Hid (∀ f, cabF1 many c E = f → f ≠ 0 → netF many L = f) := by
         intro f h1 h2
         rw [HE.out, hF, h1, if_pos h2]
        have HGood : Hid (cabF1 many c E = 0 → cabF many L [] = cabF many (L.drop (j + 1)) (E ++ [(c.a, c.pa, c.m), (c.b, c.pb, c.m)])) := by
         intro h1
         rw [hF, h1, if_neg (by simp)]
        obtain ⟨ca, cpa, cb, cpb, cm⟩ := c
        have bl := World.block_lt_of_cell? _ _ k0
        have HM : Hid _ := hm
        have HEO : Hid _ := hE
        have HB : Hid _ := hB
        have HBL : Hid _ := hbl
        obtain ⟨W1, hW1⟩ : ∃ W1, V.alloc (.cells #[.int .i64 ca, .int .i64 cpa, .int .i64 cb, .int .i64 cpb, .int .i64 cm] 81) = W1 := ⟨_, rfl⟩
        obtain ⟨Y, hY⟩ : ∃ Y, V.heap.size = Y := ⟨_, rfl⟩
        have hb1 := below_alloc V (.cells #[.int .i64 ca, .int .i64 cpa, .int .i64 cb, .int .i64 cpb, .int .i64 cm] 81)
        have hBY : Blk (V.alloc (.cells #[.int .i64 ca, .int .i64 cpa, .int .i64 cb, .int .i64 cpb, .int .i64 cm] 81)) V.heap.size #[.int .i64 ca, .int .i64 cpa, .int .i64 cb, .int .i64 cpb, .int .i64 cm] 81 := Blk.new V _ _
        rw [hW1] at hb1 hBY
        rw [hY] at hBY
        have g0 : W1.cell? ⟨Y, 0, none⟩ = some (.int .i64 ca) := hBY.cell 0
        have g1 : W1.cell? ⟨Y, 1, none⟩ = some (.int .i64 cpa) := hBY.cell 1
        have g2 : W1.cell? ⟨Y, 2, none⟩ = some (.int .i64 cb) := hBY.cell 2
        have g3 : W1.cell? ⟨Y, 3, none⟩ = some (.int .i64 cpb) := hBY.cell 3
        have g4 : W1.cell? ⟨Y, 4, none⟩ = some (.int .i64 cm) := hBY.cell 4
        have gl := hBY.lt
        have hB1 : Below w.heap.size w W1 := below_chain hB hb1
        have hM1 : EMap W1 bM E := hm.keep (hb1.block bM hbl)
        have hbl1 : bM < W1.heap.size := Nat.lt_of_lt_of_le hbl hb1.size
        have HW1 : Hid _ := hW1
        have HY : Hid _ := hY
        have HB1 : Hid _ := hB1
        have HM1 : Hid _ := hM1
        have HBL1 : Hid _ := hbl1
        have HBY : Hid _ := hBY
        have hends := endsOf_any ca cpa cb cpb cm W1
        clear hm hE hB hbl hF hd ht hEe hb1 hBY hB1 hM1 hbl1 hW1 hY
        by_cases hm1 : cm < 1 ∨ 20 < cm
        · have hbad : netF many L = 1 := HBad.out 1 (by unfold cabF1; rw [if_pos hm1]) (by decide)
          have HF : Hid _ := MetP.bad (w' := W1) hbad (by decide) HB1.out
          clear hends
          by_cases hm2 : cm < 1
          · clear hm1
            go_wp2_with (fail)
            rw [HW1.out]
            try rw [HY.out]
            go_wp2_with (fail)
            go_ret2
            exact HF.out
          · have hm3 : 20 < cm := by omega
            clear hm1
            go_wp2_with (fail)
            rw [HW1.out]
            try rw [HY.out]
            go_wp2_with (fail)
            go_ret2
            exact HF.out
        · have hm2 : ¬ cm < 1 := by omega
          have hm3 : ¬ 20 < cm := by omega
          have HM2 : Hid _ := hm1
          clear hm1
          go_wp2_with (fail)
          rw [HW1.out]
          try rw [HY.out]
          go_wp2_with (fail)
          refine hends.mono ?_
          rintro e w2 ⟨rfl, be⟩
          have HI0 : Hid (EMap w2 bM (E) ∧ EOk (E) ∧ Below w.heap.size w w2 ∧ bM < w2.heap.size ∧ w2.cell? ⟨Y, 4, none⟩ = some (.int .i64 cm)) := ⟨EMap.keep HM1.out (be.block bM HBL1.out), HEO.out, below_chain HB1.out be, Nat.lt_of_lt_of_le HBL1.out be.size, (World.cell?_of_block (a := ⟨Y, 4, none⟩) (be.block Y gl)).trans g4⟩
          clear hends be k0 k1 k2 k3 k4 g0 g1 g2 g3 g4 gl bl
          go_wp2_with (fail)
          go_loopw [42] (fun x wr => (x = .int .i64 0 ∧ (EMap wr bM (E) ∧ EOk (E) ∧ Below w.heap.size w wr ∧ bM < wr.heap.size ∧ wr.cell? ⟨Y, 4, none⟩ = some (.int .i64 cm))) ∨ (x = .int .i64 1 ∧ (EMap wr bM (E ++ [(ca, cpa, cm)]) ∧ EOk (E ++ [(ca, cpa, cm)]) ∧ Below w.heap.size w wr ∧ bM < wr.heap.size ∧ wr.cell? ⟨Y, 4, none⟩ = some (.int .i64 cm)) ∧ (endOk many ca cpa = true ∧ lookE E ca cpa = none)) ∨ (x = .int .i64 2 ∧ (EMap wr bM (E ++ [(ca, cpa, cm)] ++ [(cb, cpb, cm)]) ∧ EOk (E ++ [(ca, cpa, cm)] ++ [(cb, cpb, cm)]) ∧ Below w.heap.size w wr ∧ bM < wr.heap.size ∧ wr.cell? ⟨Y, 4, none⟩ = some (.int .i64 cm)) ∧ cabF1 many ⟨ca, cpa, cb, cpb, cm⟩ E = 0)) (fun x _ => 2 - (intOf x).toNat)
          case atStart => exact .inl ⟨rfl, HI0.out⟩
          case round =>
           obtain ⟨V2, rfl⟩ : ∃ V2, V2 = wr := ⟨_, rfl⟩
           rcases hrel with ⟨rfl, hIn⟩ | ⟨rfl, hIn, hkk⟩ | ⟨rfl, hIn, hkk⟩
           · skip
             obtain ⟨i1, i2, i3, i4, i5⟩ := hIn
             have hix := idx0 ca cpa cb cpb
             obtain ⟨W4, hW4⟩ : ∃ W4, V2.alloc (.cells #[.int .i64 ca, .int .i64 cpa] 192) = W4 := ⟨_, rfl⟩
             obtain ⟨Z, hZ⟩ : ∃ Z, V2.heap.size = Z := ⟨_, rfl⟩
             have ba := below_alloc V2 (.cells #[.int .i64 ca, .int .i64 cpa] 192)
             have hBZ : Blk (V2.alloc (.cells #[.int .i64 ca, .int .i64 cpa] 192)) V2.heap.size #[.int .i64 ca, .int .i64 cpa] 192 := Blk.new V2 _ _
             rw [hW4] at ba hBZ
             rw [hZ] at hBZ
             have z0 : W4.cell? ⟨Z, 0, none⟩ = some (.int .i64 ca) := hBZ.cell 0
             have z1 : W4.cell? ⟨Z, 1, none⟩ = some (.int .i64 cpa) := hBZ.cell 1
             have zl := hBZ.lt
             have y4 : W4.cell? ⟨Y, 4, none⟩ = some (.int .i64 cm) := (World.cell?_of_block (a := ⟨Y, 4, none⟩) (ba.block Y (World.block_lt_of_cell? _ _ i5))).trans i5
             have hlook := endLook_any w bM (E) i2 many ca cpa (by omega) W4 (i1.keep (ba.block bM i4)) (by rw [HbM.out]; exact Nat.le_refl _) (below_chain i3 ba) (Nat.lt_of_lt_of_le i4 ba.size) Z Y cm ⟨z0, z1⟩ y4
             have HW4 : Hid _ := hW4
             have HZ : Hid _ := hZ
             clear i1 i2 i3 i4 i5 hW4 hZ ba hBZ
             go_wp2_with (fail)
             try rw [HW4.out]
             try rw [HZ.out]
             go_wp2_with (fail)
             refine hlook.mono ?_
             rintro e w5 ⟨rfl, b5, ⟨x0, x1⟩, x4, hrest⟩
             have xl := World.block_lt_of_cell? _ _ x0
             have yl := World.block_lt_of_cell? _ _ x4
             clear hlook z0 z1 zl y4
             cases hok : endOk many ca cpa with
             | false =>
               have hbad : netF many L = 1 := HBad.out 1 (by unfold cabF1; rw [if_neg HM2.out, if_pos hok]) (by decide)
               have HF : Hid _ := MetP.bad (w' := w5) hbad (by decide) b5
               clear hrest b5
               go_wp2_with (fail)
               go_ret2
               exact HF.out
             | true =>
               obtain ⟨hlk, hst⟩ := hrest hok
               clear hrest
               cases hlo : lookE (E) ca cpa with
               | some m0 =>
                 have hbad : netF many L = 8 := HBad.out 8 (by unfold cabF1; rw [if_neg HM2.out, if_neg (by rw [hok]; simp), if_pos (by rw [hlo]; rfl)]) (by decide)
                 have HF : Hid _ := MetP.bad (w' := w5) hbad (by decide) b5
                 rw [hlo] at hlk
                 have q1 : (Option.getD (some m0) 0) = m0 := rfl
                 have q2 : (Option.isSome (some m0)) = true := rfl
                 rw [q1, q2] at hlk
                 clear hst b5 hok hlo hbad
                 go_wp2_with (fail)
                 go_ret2
                 exact HF.out
               | none =>
                 obtain ⟨w6, u1, u2, u3, u4', u5', u6'⟩ := hst hlo
                 have HIn2 : Hid (EMap w6 bM (E ++ [(ca, cpa, cm)]) ∧ EOk (E ++ [(ca, cpa, cm)]) ∧ Below w.heap.size w w6 ∧ bM < w6.heap.size ∧ w6.cell? ⟨Y, 4, none⟩ = some (.int .i64 cm)) := ⟨u2, u3, u4', u6', u5'⟩
                 have HKK : Hid (endOk many ca cpa = true ∧ lookE E ca cpa = none) := ⟨hok, hlo⟩
                 rw [hlo] at hlk
                 have q1 : (Option.getD (none : Option Int) 0) = 0 := rfl
                 have q2 : (Option.isSome (none : Option Int)) = false := rfl
                 rw [q1, q2] at hlk
                 clear hst b5 u2 u3 u4' u5' u6' hok hlo
                 go_wp2_with (fail)
                 go_roundw
                 case rel => exact .inr (.inl ⟨by go_num, HIn2.out, HKK.out⟩)
                 case measure => simp [intOf]
           · obtain ⟨hk1, hk2⟩ := hkk
             obtain ⟨i1, i2, i3, i4, i5⟩ := hIn
             have hix := idx1 ca cpa cb cpb
             obtain ⟨W4, hW4⟩ : ∃ W4, V2.alloc (.cells #[.int .i64 cb, .int .i64 cpb] 192) = W4 := ⟨_, rfl⟩
             obtain ⟨Z, hZ⟩ : ∃ Z, V2.heap.size = Z := ⟨_, rfl⟩
             have ba := below_alloc V2 (.cells #[.int .i64 cb, .int .i64 cpb] 192)
             have hBZ : Blk (V2.alloc (.cells #[.int .i64 cb, .int .i64 cpb] 192)) V2.heap.size #[.int .i64 cb, .int .i64 cpb] 192 := Blk.new V2 _ _
             rw [hW4] at ba hBZ
             rw [hZ] at hBZ
             have z0 : W4.cell? ⟨Z, 0, none⟩ = some (.int .i64 cb) := hBZ.cell 0
             have z1 : W4.cell? ⟨Z, 1, none⟩ = some (.int .i64 cpb) := hBZ.cell 1
             have zl := hBZ.lt
             have y4 : W4.cell? ⟨Y, 4, none⟩ = some (.int .i64 cm) := (World.cell?_of_block (a := ⟨Y, 4, none⟩) (ba.block Y (World.block_lt_of_cell? _ _ i5))).trans i5
             have hlook := endLook_any w bM (E ++ [(ca, cpa, cm)]) i2 many cb cpb (by omega) W4 (i1.keep (ba.block bM i4)) (by rw [HbM.out]; exact Nat.le_refl _) (below_chain i3 ba) (Nat.lt_of_lt_of_le i4 ba.size) Z Y cm ⟨z0, z1⟩ y4
             have HW4 : Hid _ := hW4
             have HZ : Hid _ := hZ
             clear i1 i2 i3 i4 i5 hW4 hZ ba hBZ
             go_wp2_with (fail)
             try rw [HW4.out]
             try rw [HZ.out]
             go_wp2_with (fail)
             refine hlook.mono ?_
             rintro e w5 ⟨rfl, b5, ⟨x0, x1⟩, x4, hrest⟩
             have xl := World.block_lt_of_cell? _ _ x0
             have yl := World.block_lt_of_cell? _ _ x4
             clear hlook z0 z1 zl y4
             cases hok : endOk many cb cpb with
             | false =>
               have hbad : netF many L = 1 := HBad.out 1 (by unfold cabF1; rw [if_neg HM2.out, if_neg (by rw [hk1]; simp), if_neg (by rw [hk2]; simp), if_pos hok]) (by decide)
               have HF : Hid _ := MetP.bad (w' := w5) hbad (by decide) b5
               clear hrest b5
               go_wp2_with (fail)
               go_ret2
               exact HF.out
             | true =>
               obtain ⟨hlk, hst⟩ := hrest hok
               clear hrest
               cases hlo : lookE (E ++ [(ca, cpa, cm)]) cb cpb with
               | some m0 =>
                 have hbad : netF many L = 8 := HBad.out 8 (by unfold cabF1; rw [if_neg HM2.out, if_neg (by rw [hk1]; simp), if_neg (by rw [hk2]; simp), if_neg (by rw [hok]; simp), if_pos (by rw [hlo]; rfl)]) (by decide)
                 have HF : Hid _ := MetP.bad (w' := w5) hbad (by decide) b5
                 rw [hlo] at hlk
                 have q1 : (Option.getD (some m0) 0) = m0 := rfl
                 have q2 : (Option.isSome (some m0)) = true := rfl
                 rw [q1, q2] at hlk
                 clear hst b5 hok hlo hbad
                 go_wp2_with (fail)
                 go_ret2
                 exact HF.out
               | none =>
                 obtain ⟨w6, u1, u2, u3, u4', u5', u6'⟩ := hst hlo
                 have HIn2 : Hid (EMap w6 bM (E ++ [(ca, cpa, cm)] ++ [(cb, cpb, cm)]) ∧ EOk (E ++ [(ca, cpa, cm)] ++ [(cb, cpb, cm)]) ∧ Below w.heap.size w w6 ∧ bM < w6.heap.size ∧ w6.cell? ⟨Y, 4, none⟩ = some (.int .i64 cm)) := ⟨u2, u3, u4', u6', u5'⟩
                 have HKK : Hid (cabF1 many ⟨ca, cpa, cb, cpb, cm⟩ E = 0) := by show _ = _; unfold cabF1; rw [if_neg HM2.out, if_neg (by rw [hk1]; simp), if_neg (by rw [hk2]; simp), if_neg (by rw [hok]; simp), if_neg (by rw [hlo]; simp)]
                 rw [hlo] at hlk
                 have q1 : (Option.getD (none : Option Int) 0) = 0 := rfl
                 have q2 : (Option.isSome (none : Option Int)) = false := rfl
                 rw [q1, q2] at hlk
                 clear hst b5 u2 u3 u4' u5' u6' hok hlo
                 go_wp2_with (fail)
                 go_roundw
                 case rel => exact .inr (.inr ⟨by go_num, HIn2.out, HKK.out⟩)
                 case measure => simp [intOf]
           · obtain ⟨i1, i2, i3, i4, i5⟩ := hIn
             have HN2 : Hid (EMap V2 bM (cabEs (L.take (j + 1))) ∧ EOk (cabEs (L.take (j + 1))) ∧ Below w.heap.size w V2 ∧ bM < V2.heap.size ∧ cabF many L [] = cabF many (L.drop (j + 1)) (cabEs (L.take (j + 1)))) := by
              show _ ∧ _ ∧ _ ∧ _ ∧ _
              rw [HT.out]
              have e5 : E ++ [(ca, cpa, cm)] ++ [(cb, cpb, cm)] = E ++ [(ca, cpa, cm), (cb, cpb, cm)] := by simp
              rw [e5] at i1 i2
              exact ⟨i1, i2, i3, i4, HGood.out hkk⟩
             clear i1 i2 i3 i4 i5 hkk
             go_wp2_with (fail)
             go_roundw
             case rel => exact ⟨j + 1, by omega, by go_num, HN2.out⟩
             case measure => simp [intOf]; omega
      · have hge : ¬ (j : Int) < (n : Int) := by omega
        obtain rfl : j = n := by omega
        have e9 : L.take j = L := by rw [← HN.out]; exact List.take_length
        have e8 : L.drop j = [] := by rw [← HN.out]; exact List.drop_length
        rw [e9] at hm hE hF
        rw [e8] at hF
        have hF0 : netF many L = 0 := by rw [HE.out, hF]; rfl
        have HF : Hid _ := MetP.good hF0 hm hE (by rw [HbM.out]; exact Nat.le_refl _) hB
        clear hm hE hB hbl hF hF0 e9 e8
        go_wp2_with (fail)
        go_ret2
        exact HF.out
set_option maxRecDepth 100000 in
theorem check_any (many : Int) (a : Option Addr) (cap : Nat) (L : List Cab) (w : World) (hL : CabR w a L) (hl : L.length ≤ 1000) :
 Calls Tryz.prog 38 #[.int .i64 many, .slice a L.length cap] w fun e w' => e = .returned (errV (netF many L)) ∧ Below w.heap.size w w' := by
 have hm := metricsOf_any many a cap L w hL hl
 generalize L.length = n at hm ⊢
 have h2 : Calls Tryz.prog 95 #[.int .i64 many, .slice a n cap] w fun e w' => ∃ v, e = .returned (.tuple #[.map v, errV (netF many L)]) ∧ Below w.heap.size w w' := by
  refine hm.mono ?_
  rintro e w1 ⟨h1, h2, hb⟩
  by_cases h0 : netF many L = 0
  · obtain ⟨b, rfl, _⟩ := h2 h0
    exact ⟨some b, by rw [h0]; rfl, hb⟩
  · exact ⟨none, h1 h0, hb⟩
 clear hm hL
 generalize errV (netF many L) = ev at h2 ⊢
 go_enter Tryz.func38, Tryz.ntmps38
 go_wp2_with (fail)
 refine h2.mono ?_
 rintro e w1 ⟨v, rfl, hb⟩
 have HB : Hid _ := hb
 clear h2 hb
 go_wp2_with (fail)
 go_ret
 exact ⟨rfl, HB.out⟩
end Rt
end Go.Proofs.YtieklnlbljejdaaGreatDoor
