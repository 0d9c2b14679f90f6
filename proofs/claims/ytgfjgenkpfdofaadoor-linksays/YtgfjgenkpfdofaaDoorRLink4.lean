/-
  The document's end of a link: Take.
-/
import Derived.Test.YtgfjgenkpfdofaaDoorRLink3
import Derived.Test.YtgfjgenkpfdofaaDoorRFault
import Derived.Test.YtgfjgenkpfdofaaDoorSameOpt
namespace Go.Proofs.YtgfjgenkpfdofaaDoor
open Go.RowKit

theorem optF_kinds : ∀ (os seen : List Opt), optF seen os = 0 → (os.map Prod.fst).Nodup ∧ ∀ o ∈ os, ∀ x ∈ seen, x.1 ≠ o.1
  | [], _, _ => ⟨by simp, fun o ho => by simp at ho⟩
  | o :: r, seen, h => by
    unfold optF at h
    split at h
    · simp at h
    · split at h
      · simp at h
      · rename_i _ h2
        obtain ⟨i1, i2⟩ := optF_kinds r (seen ++ [o]) h
        have h3 : ∀ x ∈ seen, x.1 ≠ o.1 := fun x hx e => h2 (List.any_eq_true.mpr ⟨x, hx, by simp [e]⟩)
        refine ⟨?_, ?_⟩
        · rw [List.map_cons, List.nodup_cons]
          refine ⟨fun hm => ?_, i1⟩
          obtain ⟨y, hy, e⟩ := List.mem_map.1 hm
          exact i2 y hy o (by simp) e.symm
        · intro y hy x hx
          rcases List.mem_cons.1 hy with rfl | hy
          · exact h3 x hx
          · exact i2 y hy x (by simp [hx])
def lastSz (os : List Opt) : Int := os.foldl (fun z o => if o.1 = 1 then o.2 else z) 255
theorem foldl_none : ∀ (os : List Opt) (z : Int), (∀ o ∈ os, o.1 ≠ 1) → os.foldl (fun z o => if o.1 = 1 then o.2 else z) z = z
  | [], _, _ => rfl
  | o :: r, z, h => by
    rw [List.foldl_cons, if_neg (h o (by simp))]
    exact foldl_none r z (fun x hx => h x (by simp [hx]))
theorem lastSz_eq (os : List Opt) (h : (os.map Prod.fst).Nodup) : lastSz os = sizeOfL os := by
  unfold lastSz
  induction os with
  | nil => rfl
  | cons o r ih =>
    rw [List.map_cons, List.nodup_cons] at h
    rw [List.foldl_cons, sizeOfL]
    by_cases h1 : o.1 = 1
    · rw [if_pos h1, if_pos h1]
      exact foldl_none r o.2 (fun x hx e => h.1 (List.mem_map.2 ⟨x, hx, by rw [e, h1]⟩))
    · rw [if_neg h1, if_neg h1]
      exact ih h.2
theorem packF_kinds {code id : Int} {os : List Opt} (h : packF code id os = 0) : (os.map Prod.fst).Nodup := by
  unfold packF at h
  split at h
  · simp at h
  · split at h
    · simp at h
    · split at h
      · simp at h
      · exact (optF_kinds os [] h).1
theorem lastSz_snoc (os : List Opt) (o : Opt) : lastSz (os ++ [o]) = if o.1 = 1 then o.2 else lastSz os := by simp [lastSz]

set_option maxRecDepth 100000 in
set_option maxHeartbeats 8000000 in
theorem rtake_one (B : Nat) (X : Nat → Prop) (s : LS) (ak : Value) (st : Nat) (id : Int) (a : Option Addr) (n cap : Nat) (os : List Opt) (w : World) (h : RRep w B X s ak (.slice none 0 0) []) (hb : Bd s 100) (hs : s.st = st) (hst : st < 10)
    (ho : OptR w a n os) (hnn : n ≤ 1000) (hfar : ∀ k, optOwn a n = some k → k ≠ B ∧ k < w.heap.size) (m1 : 0 ≤ s.nm) (m2 : s.nm ≤ 255) (hck : packF 1 id os = 0) :
    Calls Tryd.prog 14 #[.pointer (some ⟨B, 0, none⟩), .agg #[.int .i64 1, .int .i64 id, .slice a n cap]] w fun e w' => e = .returned (.int .i64 ((reqP s id os).2.2 : Int)) ∧ RWent w w' B X (reqP s id os).1 (reqP s id os).2.1 := by
  have hk := below_alloc w (.cells #[.int .i64 1, .int .i64 id, .slice a n cap] 36)
  have hA := fun j => World.cell?_alloc_mark w #[.int .i64 1, .int .i64 id, .slice a n cap] 36 (0, 0) j
  have hC := pfault_any 1 id a n cap os _ (by unfold maxLen; omega) (ho.below hk)
  have hkd := packF_kinds hck
  rw [hck] at hC
  have hlB0 := h.blk.lt
  have hol := ho.1
  obtain ⟨Z, hZ⟩ : ∃ Z, w.heap.size = Z := ⟨_, rfl⟩
  have hAZ : ∀ j, (w.alloc (.cells #[.int .i64 1, .int .i64 id, .slice a n cap] 36)).cell? ⟨Z, j, none⟩ = #[.int .i64 1, .int .i64 id, .slice a n cap][j]? := by rw [← hZ]; exact hA
  have hlZ0 : Z < (w.alloc (.cells #[.int .i64 1, .int .i64 id, .slice a n cap] 36)).heap.size := by simp; omega
  have HZ : Hid (w.heap.size = Z) := hZ
  have HBZ : Hid (B ≠ Z) := by show B ≠ Z; omega
  have HF : Hid (∀ k, optOwn a n = some k → k ≠ B ∧ k < w.heap.size) := hfar
  clear hA hZ hck hfar
  have HRQ : ∀ W2 : World, Below w.heap.size w W2 → Hid (RRep W2 B X s ak (.slice none 0 0) []) := fun W2 k => h.below k
  have HO : Hid (∀ W2 : World, Below w.heap.size w W2 → OptR W2 a n os) := fun W2 k => ho.below k
  clear h ho
  go_enter Tryd.func14, Tryd.ntmps14
  go_wp2_with (fail)
  refine hC.mono ?_
  rintro e w1 ⟨rfl, k1⟩
  have d0 : w1.cell? ⟨Z, 0, none⟩ = some (.int .i64 1) := (k1.cell (p := ⟨Z, 0, none⟩) hlZ0).trans (hAZ 0)
  have d1 : w1.cell? ⟨Z, 1, none⟩ = some (.int .i64 id) := (k1.cell (p := ⟨Z, 1, none⟩) hlZ0).trans (hAZ 1)
  have d2 : w1.cell? ⟨Z, 2, none⟩ = some (.slice a n cap) := (k1.cell (p := ⟨Z, 2, none⟩) hlZ0).trans (hAZ 2)
  have hlZ : Z < w1.heap.size := World.block_lt_of_cell? w1 _ d0
  have k01 := below_chain hk k1
  have HR1 := HRQ w1 k01
  have c6 : w1.cell? ⟨B, 6, none⟩ = some (.int .i64 s.ns) := HR1.out.blk.cell 6
  have c7 : w1.cell? ⟨B, 7, none⟩ = some (.int .i64 s.nm) := HR1.out.blk.cell 7
  have hlB := HR1.out.blk.lt
  have hJ := rjudge_far s.ns s.nm a n cap os w1.drew m1 m2 (by omega) (HO.out _ (below_drew k01))
  have hjf := judgeR_few s.nm os
  obtain ⟨cj, lj, hj⟩ : ∃ cj lj, judgeR s.nm os = (cj, lj) := ⟨_, _, rfl⟩
  have hreq : reqP s id os = if cj = 2 then (if (evP s 6 (2, id, os)).2.2 = 0 then ((evP s 6 (2, id, os)).1.sized os, (evP s 6 (2, id, os)).2.1, 0) else evP s 6 (2, id, os)) else evP s 7 (cj, id, lj) := by
    unfold reqP
    rw [hj]
  have h2j : cj = 2 → lj = os := fun e => by
    have := judgeR_two (mg := s.nm) (os := os) (by rw [hj]; exact e)
    rw [hj] at this
    exact (Prod.mk.inj this).2
  rw [hj] at hJ hjf
  simp only at hJ hjf
  have HQ : Hid _ := hreq
  have H2J : Hid _ := h2j
  clear hC hAZ hlZ0 HRQ hj hreq h2j hk k1
  rw [HZ.out]
  go_wp2_with (fail)
  go_region_with (go_at_call 28; refine hJ.mono ?_; rintro e w2 ⟨a', n', cap', rfl, ho2, k2, hf2⟩)
  all_goals
    have k12 : Below w1.heap.size w1 w2 := below_chain (below_drew (Below.refl _ _)) k2
    have k02 := below_chain k01 k12
    have R2 := HR1.out.below k12
    have g0 : w2.cell? ⟨Z, 0, none⟩ = some (.int .i64 1) := (k12.cell (p := ⟨Z, 0, none⟩) hlZ).trans d0
    have g1 : w2.cell? ⟨Z, 1, none⟩ = some (.int .i64 id) := (k12.cell (p := ⟨Z, 1, none⟩) hlZ).trans d1
    have g2 : w2.cell? ⟨Z, 2, none⟩ = some (.slice a n cap) := (k12.cell (p := ⟨Z, 2, none⟩) hlZ).trans d2
    have hlZ2 : Z < w2.heap.size := World.block_lt_of_cell? w2 _ g1
    have hn' : n' ≤ 1000 := by have := ho2.1; omega
    have hfar2 : ∀ k, optOwn a' n' = some k → k ≠ B ∧ k < w2.heap.size := fun k hk => by
      rcases hf2 k hk with e | e
      · have e' : w1.heap.size ≤ k := e.1
        exact ⟨by omega, e.2⟩
      · obtain ⟨q1, q2⟩ := HF.out k e
        exact ⟨q1, Nat.lt_of_lt_of_le q2 k02.size⟩
    have HE6 := revent_all B X s ak st 6 1 id cj a a' n cap n' cap' lj w2 R2 hb hs hst (by decide) ho2 hn' hfar2
    have HE7 := revent_all B X s ak st 7 1 id cj a a' n cap n' cap' lj w2 R2 hb hs hst (by decide) ho2 hn' hfar2
    clear d0 d1 d2 c6 c7 hJ R2 ho2 hf2 hfar2
    cases hcb : (cj != 2)
    · have hc2 : cj = 2 := by simpa using hcb
      subst hc2
      obtain rfl := H2J.out rfl
      rw [if_pos rfl] at HQ
      by_cases hf : (stepI s.st 6).2.2 = 0
      · have ee : evP s ((6 : Nat) : Int) (2, id, lj) = (comeS s 6, comeO s 6 (2, id, lj), 0) := evP_ok _ hf
        have eq : reqP s id lj = ((comeS s 6).sized lj, comeO s 6 (2, id, lj), 0) := by
          rw [HQ.out]
          have ee' : evP s 6 (2, id, lj) = (comeS s 6, comeO s 6 (2, id, lj), 0) := ee
          rw [ee', if_pos rfl]
        rw [ee] at HE6
        have HQ2 : Hid _ := eq
        clear HQ ee eq HE7 hcb H2J
        go_wp2_with (fail)
        refine HE6.mono ?_
        rintro x w4 ⟨rfl, hW⟩
        clear HE6
        obtain ⟨⟨ak', v', qs, hR4, ho4, hv4⟩, hK4⟩ := hW
        obtain ⟨s', hs'⟩ : ∃ s', comeS s 6 = s' := ⟨_, rfl⟩
        rw [hs'] at hR4
        have HS : Hid (comeS s 6 = s') := hs'
        have z0 : w4.cell? ⟨B, 0, none⟩ = some (.int .i64 s'.st) := hR4.blk.cell 0
        have z9 : w4.cell? ⟨B, 9, none⟩ = some (.int .i64 s'.sz) := hR4.blk.cell 9
        have zf : ∀ j, w4.frozen? ⟨B, j, none⟩ = false := hR4.blk.frozen
        have zl := hR4.blk.lt
        have hK04 : Kept w w4 B none := (Kept.of_below B none k02).trans hK4 (fun i e => .inl e)
        have y2 : w4.cell? ⟨Z, 2, none⟩ = some (.slice a n cap) := (World.cell?_of_block (a := ⟨Z, 2, none⟩) (hK4.block Z hlZ2 (fun e => HBZ.out e.symm) (by simp))).trans g2
        have hlz4 : Z < w4.heap.size := World.block_lt_of_cell? w4 _ y2
        have ho5 : OptR w4 a n lj := (HO.out w (Below.refl _ _)).keptO (fun k hk4 => by obtain ⟨q1, q2⟩ := HF.out k hk4; exact hK04.block k q2 q1 (by simp))
        have hvv : ∀ g, v'.ownBlock = some g → w.heap.size ≤ g := fun g hg => Nat.le_trans k02.size (hv4 g hg)
        clear hs' g0 g1 g2 hv4 hK4 k02 k12
        have bBZ := HBZ.out
        by_cases h6 : 6 ≤ s'.st
        · have M0 : Hid (RRep (w4.setCell ⟨B, 9, none⟩ (.int .i64 255)) B X { s' with sz := lastSz (lj.take 0) } ak' v' qs) := hR4.setC 9 _ _ rfl ⟨rfl, rfl⟩
          have N0 : Hid (Kept w (w4.setCell ⟨B, 9, none⟩ (.int .i64 255)) B none) := kept_set hK04 9 _
          have V0 : Hid (∀ W2 : World, Kept w W2 B none → OptR W2 a n lj) := fun W2 k => (HO.out w (Below.refl _ _)).keptO (fun j hj => by obtain ⟨q1, q2⟩ := HF.out j hj; exact k.block j q2 q1 (by simp))
          have Y0 : Hid ((w4.setCell ⟨B, 9, none⟩ (.int .i64 255)).cell? ⟨Z, 2, none⟩ = some (.slice a n cap)) := (World.cell?_of_block (a := ⟨Z, 2, none⟩) (Below.heap_setCell _ _ _ Z (by show Z ≠ B; omega))).trans y2
          clear hR4 hK04 ho5
          go_wp2_with (fail)
          obtain ⟨W5, hW5⟩ : ∃ W5, w4.setCell ⟨B, 9, none⟩ (.int .i64 255) = W5 := ⟨_, rfl⟩
          rw [hW5] at M0 N0 Y0
          rw [hW5]
          clear hW5 z0 z9 zf zl y2 hlz4
          go_loopw [9] (fun i wr => ∃ k : Nat, k ≤ n ∧ i = .int .i64 k ∧ RRep wr B X { s' with sz := lastSz (lj.take k) } ak' v' qs ∧ Kept w wr B none ∧ wr.cell? ⟨Z, 2, none⟩ = some (.slice a n cap)) (fun i _ => n - (intOf i).toNat)
          case atStart => exact ⟨0, Nat.zero_le _, rfl, M0.out, N0.out, Y0.out⟩
          case round =>
            clear M0 N0 Y0
            obtain ⟨k, hk, rfl, hR, hK, hy⟩ := hrel
            have hol := HO.out w (Below.refl _ _)
            have hlen := hol.1
            clear hol
            have xl : Z < wr.heap.size := World.block_lt_of_cell? wr _ hy
            by_cases hlt : k < n
            · have hor := V0.out wr hK
              rcases hor.2 with h0 | ⟨b, off, rfl, hc⟩
              · omega
              have hlo : k < lj.length := by omega
              obtain ⟨c1, c2⟩ := hc k hlo
              have HT : Hid (lj.take (k + 1) = lj.take k ++ [lj[k]]) := List.take_succ_eq_append_getElem hlo
              generalize lj[k] = o at c1 c2 HT
              clear hc hor
              have hlt' : (k : Int) < (n : Int) := by omega
              have hk0 : (0 : Int) ≤ (k : Int) := by omega
              have u9 : wr.cell? ⟨B, 9, none⟩ = some (.int .i64 (lastSz (lj.take k))) := hR.blk.cell 9
              have uf : ∀ j, wr.frozen? ⟨B, j, none⟩ = false := hR.blk.frozen
              have ul := hR.blk.lt
              cases q1 : (o.1 == 1)
              · have HR2 : Hid (RRep wr B X { s' with sz := lastSz (lj.take (k + 1)) } ak' v' qs) := by
                  show RRep _ _ _ _ _ _ _
                  rw [HT.out, lastSz_snoc, if_neg (by simpa using q1)]
                  exact hR
                have HK2 : Hid _ := hK
                clear hR hK
                go_wp2_with (fail)
                go_roundw
                case rel => exact ⟨k + 1, by omega, by go_num, HR2.out, HK2.out, hy⟩
                case measure => simp [intOf]; omega
              · have HR2 : Hid (RRep (wr.setCell ⟨B, 9, none⟩ (.int .i64 o.2)) B X { s' with sz := lastSz (lj.take (k + 1)) } ak' v' qs) := by
                  show RRep _ _ _ _ _ _ _
                  rw [HT.out, lastSz_snoc, if_pos (by simpa using q1)]
                  exact hR.setC 9 _ _ rfl ⟨rfl, rfl⟩
                have HK2 : Hid (Kept w (wr.setCell ⟨B, 9, none⟩ (.int .i64 o.2)) B none) := kept_set hK 9 _
                have HY2 : Hid ((wr.setCell ⟨B, 9, none⟩ (.int .i64 o.2)).cell? ⟨Z, 2, none⟩ = some (.slice (some ⟨b, off, none⟩) n cap)) := (World.cell?_of_block (a := ⟨Z, 2, none⟩) (Below.heap_setCell _ _ _ Z (by show Z ≠ B; omega))).trans hy
                clear hR hK
                go_wp2_with (fail)
                go_roundw
                case rel => exact ⟨k + 1, by omega, by go_num, HR2.out, HK2.out, HY2.out⟩
                case measure => simp [intOf]; omega
            · have HF9 : Hid (RWent w wr B X (reqP s id lj).1 (reqP s id lj).2.1 ∧ (reqP s id lj).2.2 = 0) := by
                show _ ∧ _
                rw [HQ2.out]
                have e1 : lj.take k = lj := List.take_of_length_le (by omega)
                rw [e1, lastSz_eq lj hkd] at hR
                refine ⟨⟨⟨ak', v', qs, ?_, ho4, hvv⟩, hK⟩, rfl⟩
                have e6 : (comeS s 6).sized lj = { s' with sz := sizeOfL lj } := by rw [HS.out]; simp [LS.sized, h6]
                rw [e6]
                exact hR
              clear hR hK
              go_wp2_with (fail)
              go_ret
              exact ⟨by rw [HF9.out.2]; rfl, HF9.out.1⟩
        · have HF9 : Hid (RWent w w4 B X (reqP s id lj).1 (reqP s id lj).2.1 ∧ (reqP s id lj).2.2 = 0) := by
            show _ ∧ _
            rw [HQ2.out]
            have e6 : (comeS s 6).sized lj = s' := by rw [HS.out]; unfold LS.sized; rw [if_neg h6]
            rw [e6]
            exact ⟨⟨⟨ak', v', qs, hR4, ho4, hvv⟩, hK04⟩, rfl⟩
          have h6' : s'.st < 6 := by omega
          clear hR4 hK04
          go_wp2_with (fail)
          go_ret
          exact ⟨by rw [HF9.out.2]; rfl, HF9.out.1⟩
      · have ee : evP s ((6 : Nat) : Int) (2, id, lj) = (s, [], (stepI s.st 6).2.2) := evP_no _ hf
        have eq : reqP s id lj = (s, [], (stepI s.st 6).2.2) := by
          rw [HQ.out]
          have ee' : evP s 6 (2, id, lj) = (s, [], (stepI s.st 6).2.2) := ee
          rw [ee', if_neg hf]
        rw [ee] at HE6
        have HQ2 : Hid _ := eq
        simp only at HE6
        clear HQ ee eq HE7 hcb H2J
        have hfb : (((stepI s.st 6).2.2 : Int) == 0) = false := by simp; omega
        obtain ⟨f, hff⟩ : ∃ f, (stepI s.st 6).2.2 = f := ⟨_, rfl⟩
        rw [hff] at HE6 hfb HQ2
        clear hf hff
        go_wp2_with (fail)
        refine HE6.mono ?_
        rintro x w4 ⟨rfl, hW⟩
        clear HE6
        go_wp2_with (fail)
        go_ret
        rw [HQ2.out]
        exact ⟨rfl, hW.from (Kept.of_below B none k02)⟩
    · have hc2 : cj ≠ 2 := by simpa using hcb
      have eq : reqP s id os = evP s ((7 : Nat) : Int) (cj, id, lj) := by
        rw [HQ.out, if_neg hc2]
        rfl
      have HQ2 : Hid _ := eq
      clear HQ eq HE6 hc2 H2J
      go_wp2_with (fail)
      refine HE7.mono ?_
      rintro x w4 ⟨rfl, hW⟩
      clear HE7
      go_wp2_with (fail)
      go_ret
      rw [HQ2.out]
      exact ⟨rfl, hW.from (Kept.of_below B none k02)⟩
end Go.Proofs.YtgfjgenkpfdofaaDoor
