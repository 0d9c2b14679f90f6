/-
  The document's end of a link: Take, whatever comes.
-/
import Derived.Test.YtgfjgenkpfdofaaDoorRLink4
namespace Go.Proofs.YtgfjgenkpfdofaaDoor
open Go.RowKit

set_option maxRecDepth 100000 in
set_option maxHeartbeats 2000000 in
theorem rtake_fault (B : Nat) (X : Nat → Prop) (s : LS) (ak : Value) (code id : Int) (a : Option Addr) (n cap : Nat) (os : List Opt) (w : World) (h : RRep w B X s ak (.slice none 0 0) []) (ho : OptR w a n os) (hnn : n ≤ 1000) (hck : packF code id os ≠ 0) :
    Calls Tryd.prog 14 #[.pointer (some ⟨B, 0, none⟩), .agg #[.int .i64 code, .int .i64 id, .slice a n cap]] w fun e w' => e = .returned (.int .i64 ((takeP s (code, id, os)).2.2 : Int)) ∧ RWent w w' B X (takeP s (code, id, os)).1 (takeP s (code, id, os)).2.1 := by
  have hk := below_alloc w (.cells #[.int .i64 code, .int .i64 id, .slice a n cap] 36)
  have hC := pfault_any code id a n cap os _ (by unfold maxLen; omega) (ho.below hk)
  have HRQ : ∀ W2 : World, Below w.heap.size w W2 → Hid (RRep W2 B X s ak (.slice none 0 0) []) := fun W2 k => h.below k
  have etk : takeP s (code, id, os) = (s, [], packF code id os) := by
    unfold takeP
    rw [if_pos hck]
  rw [etk]
  have hpos : (0 : Int) < (packF code id os : Int) := by omega
  clear etk hck h ho
  simp only
  generalize packF code id os = f at hC hpos ⊢
  go_enter Tryd.func14, Tryd.ntmps14
  go_wp2_with (fail)
  refine hC.mono ?_
  rintro e w1 ⟨rfl, k1⟩
  have HR1 := HRQ w1 (below_chain hk k1)
  clear hC HRQ
  go_wp2_with (fail)
  go_ret
  exact ⟨rfl, RWent.still HR1.out (Kept.of_below B none (below_chain hk k1))⟩

set_option maxRecDepth 100000 in
set_option maxHeartbeats 8000000 in
theorem rtake_else (B : Nat) (X : Nat → Prop) (s : LS) (ak : Value) (st : Nat) (code id : Int) (a : Option Addr) (n cap : Nat) (os : List Opt) (w : World) (h : RRep w B X s ak (.slice none 0 0) []) (hb : Bd s 100) (hs : s.st = st) (hst : st < 10)
    (ho : OptR w a n os) (hnn : n ≤ 1000) (h1 : code ≠ 1) :
    Calls Tryd.prog 14 #[.pointer (some ⟨B, 0, none⟩), .agg #[.int .i64 code, .int .i64 id, .slice a n cap]] w fun e w' => e = .returned (.int .i64 ((takeP s (code, id, os)).2.2 : Int)) ∧ RWent w w' B X (takeP s (code, id, os)).1 (takeP s (code, id, os)).2.1 := by
  have hk := below_alloc w (.cells #[.int .i64 code, .int .i64 id, .slice a n cap] 36)
  have hA := fun j => World.cell?_alloc_mark w #[.int .i64 code, .int .i64 id, .slice a n cap] 36 (0, 0) j
  have hC := pfault_any code id a n cap os _ (by unfold maxLen; omega) (ho.below hk)
  have hlB0 := h.blk.lt
  have hol := ho.1
  have b1 : (code == 1) = false := by simpa using h1
  obtain ⟨Z, hZ⟩ : ∃ Z, w.heap.size = Z := ⟨_, rfl⟩
  have hAZ : ∀ j, (w.alloc (.cells #[.int .i64 code, .int .i64 id, .slice a n cap] 36)).cell? ⟨Z, j, none⟩ = #[.int .i64 code, .int .i64 id, .slice a n cap][j]? := by rw [← hZ]; exact hA
  have hlZ0 : Z < (w.alloc (.cells #[.int .i64 code, .int .i64 id, .slice a n cap] 36)).heap.size := by simp; omega
  have HZ : Hid (w.heap.size = Z) := hZ
  have HBZ : Hid (B ≠ Z) := by show B ≠ Z; omega
  clear hA hZ
  have HRQ : ∀ W2 : World, Below w.heap.size w W2 → Hid (RRep W2 B X s ak (.slice none 0 0) []) := fun W2 k => h.below k
  have HO : Hid (∀ W2 : World, Below w.heap.size w W2 → OptR W2 a n os) := fun W2 k => ho.below k
  have main : ∀ (e : Nat), e < 12 → ∀ W2 : World, Below w.heap.size w W2 → Calls Tryd.prog 22 #[.pointer (some ⟨B, 0, none⟩), .int .i64 e, .agg #[.int .i64 code, .int .i64 id, .slice a n cap], .int .i64 0, .slice none 0 0] W2 fun x w' => x = .returned (.int .i64 ((evP s e (0, id, [])).2.2 : Int)) ∧ RWent w w' B X (evP s e (0, id, [])).1 (evP s e (0, id, [])).2.1 := by
    intro e he W2 k
    refine (revent_all B X s ak st e code id 0 a none n cap 0 0 [] W2 (h.below k) hb hs hst he (OptR.nil _ _) (by omega) (fun k hk => by simp [optOwn] at hk)).mono ?_
    rintro x w' ⟨rfl, hW⟩
    exact ⟨rfl, hW.from (Kept.of_below B none k)⟩
  by_cases hck : packF code id os = 0
  · have etk : takeP s (code, id, os) = if code = 5 then evP s 10 (0, id, []) else if code = 6 then evP s 11 (0, id, []) else ansP s code id os := by
      unfold takeP
      rw [if_neg (by simpa using hck), if_neg h1]
    rw [etk]
    rw [hck] at hC
    clear etk hck h1
    by_cases h5 : code = 5
    · subst h5
      rw [if_pos rfl]
      clear h ho
      go_enter Tryd.func14, Tryd.ntmps14
      go_wp2_with (fail)
      refine hC.mono ?_
      rintro e w1 ⟨rfl, k1⟩
      have d0 : w1.cell? ⟨Z, 0, none⟩ = some (.int .i64 5) := (k1.cell (p := ⟨Z, 0, none⟩) hlZ0).trans (hAZ 0)
      have d1 : w1.cell? ⟨Z, 1, none⟩ = some (.int .i64 id) := (k1.cell (p := ⟨Z, 1, none⟩) hlZ0).trans (hAZ 1)
      have d2 : w1.cell? ⟨Z, 2, none⟩ = some (.slice a n cap) := (k1.cell (p := ⟨Z, 2, none⟩) hlZ0).trans (hAZ 2)
      have hlZ : Z < w1.heap.size := World.block_lt_of_cell? w1 _ d0
      have HK := main 10 (by decide) w1 (below_chain hk k1)
      clear hC hAZ hlZ0 main HRQ
      rw [HZ.out]
      go_wp2_with (fail)
      refine HK.mono ?_
      rintro e w2 ⟨rfl, hW⟩
      clear HK
      go_wp2_with (fail)
      go_ret
      exact ⟨rfl, hW⟩
    · rw [if_neg h5]
      have b5 : (code == 5) = false := by simpa using h5
      by_cases h6 : code = 6
      · subst h6
        rw [if_pos rfl]
        clear h ho
        go_enter Tryd.func14, Tryd.ntmps14
        go_wp2_with (fail)
        refine hC.mono ?_
        rintro e w1 ⟨rfl, k1⟩
        have d0 : w1.cell? ⟨Z, 0, none⟩ = some (.int .i64 6) := (k1.cell (p := ⟨Z, 0, none⟩) hlZ0).trans (hAZ 0)
        have d1 : w1.cell? ⟨Z, 1, none⟩ = some (.int .i64 id) := (k1.cell (p := ⟨Z, 1, none⟩) hlZ0).trans (hAZ 1)
        have d2 : w1.cell? ⟨Z, 2, none⟩ = some (.slice a n cap) := (k1.cell (p := ⟨Z, 2, none⟩) hlZ0).trans (hAZ 2)
        have hlZ : Z < w1.heap.size := World.block_lt_of_cell? w1 _ d0
        have HK := main 11 (by decide) w1 (below_chain hk k1)
        clear hC hAZ hlZ0 main HRQ
        rw [HZ.out]
        go_wp2_with (fail)
        refine HK.mono ?_
        rintro e w2 ⟨rfl, hW⟩
        clear HK
        go_wp2_with (fail)
        go_ret
        exact ⟨rfl, hW⟩
      · rw [if_neg h6]
        have b6 : (code == 6) = false := by simpa using h6
        clear h5 h6 h ho
        have HRX : Hid _ := HRQ
        have HMN : Hid _ := main
        clear HRQ main
        cases hee : (id != s.ow)
        · have hid : id = s.ow := by simpa using hee
          have HID : Hid (id = s.ow) := hid
          clear hid
          cases h22 : (code == 2)
          · have hc2 : code ≠ 2 := by simpa using h22
            have ea : ansP s code id os = evP (s.tell code os) 9 (0, id, []) := by
              unfold ansP
              rw [if_neg (by simpa using HID.out), if_neg hc2]
            rw [ea]
            clear ea hc2
            by_cases h6 : 6 ≤ s.st
            · have et : s.tell code os = { s with ns := (toldR code os (s.ns, s.nm)).1, nm := (toldR code os (s.ns, s.nm)).2 } := by unfold LS.tell; rw [if_pos h6]
              rw [et]
              clear et
              have hTo := fun (W : World) (hW : Below w.heap.size w W) => rtold_any s.ns s.nm code a n cap os W (by omega) (HO.out W hW)
              generalize (toldR code os (s.ns, s.nm)).1 = ts at hTo ⊢
              generalize (toldR code os (s.ns, s.nm)).2 = tm at hTo ⊢
              obtain ⟨E, hE⟩ : ∃ E, ((evP { s with ns := ts, nm := tm } 9 (0, id, [])).2.2 : Int) = E := ⟨_, rfl⟩
              obtain ⟨S', hS'⟩ : ∃ S', (evP { s with ns := ts, nm := tm } 9 (0, id, [])).1 = S' := ⟨_, rfl⟩
              obtain ⟨O', hO'⟩ : ∃ O', (evP { s with ns := ts, nm := tm } 9 (0, id, [])).2.1 = O' := ⟨_, rfl⟩
              rw [hE, hS', hO']
              have HE : Hid _ := And.intro hE (And.intro hS' hO')
              have HTo : Hid _ := hTo
              clear hE hS' hO' hTo
              go_enter Tryd.func14, Tryd.ntmps14
              go_wp2_with (fail)
              refine hC.mono ?_
              rintro e w1 ⟨rfl, k1⟩
              have d0 : w1.cell? ⟨Z, 0, none⟩ = some (.int .i64 code) := (k1.cell (p := ⟨Z, 0, none⟩) hlZ0).trans (hAZ 0)
              have d1 : w1.cell? ⟨Z, 1, none⟩ = some (.int .i64 id) := (k1.cell (p := ⟨Z, 1, none⟩) hlZ0).trans (hAZ 1)
              have d2 : w1.cell? ⟨Z, 2, none⟩ = some (.slice a n cap) := (k1.cell (p := ⟨Z, 2, none⟩) hlZ0).trans (hAZ 2)
              have hlZ : Z < w1.heap.size := World.block_lt_of_cell? w1 _ d0
              have k01 := below_chain hk k1
              have HR1 := HRX.out w1 k01
              have c3 : w1.cell? ⟨B, 3, none⟩ = some (.int .i64 s.ow) := HR1.out.blk.cell 3
              have hlB := HR1.out.blk.lt
              clear hC hAZ hlZ0 hk k1 HMN
              rw [HZ.out]
              go_wp2_with (fail)
              go_quiet (fail)
              obtain ⟨W2, hW2⟩ : ∃ W2, w1.drewN nq = W2 := ⟨_, rfl⟩
              have k12 : Below w1.heap.size w1 W2 := by rw [← hW2]; exact below_drewN (Below.refl _ _) _
              rw [hW2]
              have k02 := below_chain k01 k12
              have HR2 := HRX.out W2 k02
              have e0 : W2.cell? ⟨Z, 0, none⟩ = some (.int .i64 code) := (k12.cell (p := ⟨Z, 0, none⟩) hlZ).trans d0
              have e1 : W2.cell? ⟨Z, 1, none⟩ = some (.int .i64 id) := (k12.cell (p := ⟨Z, 1, none⟩) hlZ).trans d1
              have e2 : W2.cell? ⟨Z, 2, none⟩ = some (.slice a n cap) := (k12.cell (p := ⟨Z, 2, none⟩) hlZ).trans d2
              have f0 : W2.cell? ⟨B, 0, none⟩ = some (.int .i64 s.st) := HR2.out.blk.cell 0
              have f6 : W2.cell? ⟨B, 6, none⟩ = some (.int .i64 s.ns) := HR2.out.blk.cell 6
              have f7 : W2.cell? ⟨B, 7, none⟩ = some (.int .i64 s.nm) := HR2.out.blk.cell 7
              have hlB2 := HR2.out.blk.lt
              have hlZ2 : Z < W2.heap.size := World.block_lt_of_cell? W2 _ e1
              have hC := HTo.out W2.drew (below_drew k02)
              clear d0 d1 d2 c3 hW2 k12 hlB hlZ HR1 HTo
              go_wp2_with (fail)
              go_region_with (go_at_call 30; refine hC.mono ?_; rintro e w3 ⟨rfl, b3⟩; have k23 : Below W2.heap.size W2 w3 := below_chain (below_drew (Below.refl _ _)) b3; have R3 := HR2.out.below k23; have g6 : w3.cell? ⟨B, 6, none⟩ = some (.int .i64 s.ns) := R3.blk.cell 6; have g7 : w3.cell? ⟨B, 7, none⟩ = some (.int .i64 s.nm) := R3.blk.cell 7; have gf : ∀ j, w3.frozen? ⟨B, j, none⟩ = false := R3.blk.frozen; have gl := R3.blk.lt; have z0 : w3.cell? ⟨Z, 0, none⟩ = some (.int .i64 code) := (k23.cell (p := ⟨Z, 0, none⟩) hlZ2).trans e0; have z1 : w3.cell? ⟨Z, 1, none⟩ = some (.int .i64 id) := (k23.cell (p := ⟨Z, 1, none⟩) hlZ2).trans e1; have z2 : w3.cell? ⟨Z, 2, none⟩ = some (.slice a n cap) := (k23.cell (p := ⟨Z, 2, none⟩) hlZ2).trans e2)
              all_goals
                have R4 : RRep ((w3.setCell ⟨B, 6, none⟩ (.int .i64 ts)).setCell ⟨B, 7, none⟩ (.int .i64 tm)) B X { s with ns := ts, nm := tm } ak (.slice none 0 0) [] := (R3.setC 6 _ { s with ns := ts } rfl ⟨rfl, rfl⟩).setC 7 _ _ rfl ⟨rfl, rfl⟩
                have K4 : Kept w ((w3.setCell ⟨B, 6, none⟩ (.int .i64 ts)).setCell ⟨B, 7, none⟩ (.int .i64 tm)) B none := kept_set (kept_set (Kept.of_below B _ (below_chain k02 k23)) 6 _) 7 _
                have HCC := revent_all B X { s with ns := ts, nm := tm } ak st 9 code id 0 a none n cap 0 0 [] _ R4 ⟨hb.o1, hb.o2, hb.l1, hb.l2⟩ hs hst (by decide) (OptR.nil _ _) (by omega) (fun k hk => by simp [optOwn] at hk)
                rw [show ((9 : Nat) : Int) = 9 from rfl, HE.out.1, HE.out.2.1, HE.out.2.2] at HCC
                clear HE R4 R3 hC
                have hlz3 : Z < w3.heap.size := World.block_lt_of_cell? w3 _ z1
                have hBZ := HBZ.out
                go_wp2_with (fail)
                refine HCC.mono ?_
                rintro e w5 ⟨rfl, hW⟩
                clear HCC
                go_wp2_with (fail)
                go_ret
                exact ⟨rfl, hW.from K4⟩
            · have et : s.tell code os = s := by unfold LS.tell; rw [if_neg h6]
              rw [et]
              clear et
              go_enter Tryd.func14, Tryd.ntmps14
              go_wp2_with (fail)
              refine hC.mono ?_
              rintro e w1 ⟨rfl, k1⟩
              have d0 : w1.cell? ⟨Z, 0, none⟩ = some (.int .i64 code) := (k1.cell (p := ⟨Z, 0, none⟩) hlZ0).trans (hAZ 0)
              have d1 : w1.cell? ⟨Z, 1, none⟩ = some (.int .i64 id) := (k1.cell (p := ⟨Z, 1, none⟩) hlZ0).trans (hAZ 1)
              have d2 : w1.cell? ⟨Z, 2, none⟩ = some (.slice a n cap) := (k1.cell (p := ⟨Z, 2, none⟩) hlZ0).trans (hAZ 2)
              have hlZ : Z < w1.heap.size := World.block_lt_of_cell? w1 _ d0
              have k01 := below_chain hk k1
              have HR1 := HRX.out w1 k01
              have c3 : w1.cell? ⟨B, 3, none⟩ = some (.int .i64 s.ow) := HR1.out.blk.cell 3
              have c0 : w1.cell? ⟨B, 0, none⟩ = some (.int .i64 s.st) := HR1.out.blk.cell 0
              have hlB := HR1.out.blk.lt
              clear hC hAZ hlZ0 hk k1
              rw [HZ.out]
              go_wp2_with (fail)
              go_quiet (fail)
              have HK := HMN.out 9 (by decide) (w1.drewN nq) (below_drewN k01 nq)
              go_wp2_with (fail)
              refine HK.mono ?_
              rintro e w5 ⟨rfl, hW⟩
              clear HK
              go_wp2_with (fail)
              go_ret
              exact ⟨rfl, hW⟩
          · have hc2 : code = 2 := by simpa using h22
            subst hc2
            clear h22
            go_enter Tryd.func14, Tryd.ntmps14
            go_wp2_with (fail)
            refine hC.mono ?_
            rintro e w1 ⟨rfl, k1⟩
            have d0 : w1.cell? ⟨Z, 0, none⟩ = some (.int .i64 2) := (k1.cell (p := ⟨Z, 0, none⟩) hlZ0).trans (hAZ 0)
            have d1 : w1.cell? ⟨Z, 1, none⟩ = some (.int .i64 id) := (k1.cell (p := ⟨Z, 1, none⟩) hlZ0).trans (hAZ 1)
            have d2 : w1.cell? ⟨Z, 2, none⟩ = some (.slice a n cap) := (k1.cell (p := ⟨Z, 2, none⟩) hlZ0).trans (hAZ 2)
            have hlZ : Z < w1.heap.size := World.block_lt_of_cell? w1 _ d0
            have k01 := below_chain hk k1
            have HR1 := HRX.out w1 k01
            have c3 : w1.cell? ⟨B, 3, none⟩ = some (.int .i64 s.ow) := HR1.out.blk.cell 3
            have c8 : w1.cell? ⟨B, 8, none⟩ = some ak := HR1.out.blk.cell 8
            have hlB := HR1.out.blk.lt
            obtain ⟨aa, an, ac, hak, hao, _, _, haf⟩ := HR1.out.ask.ex
            have HAO : Hid (∀ W2 : World, Below w1.heap.size w1 W2 → OptR W2 aa an (asksL s.qs s.qm)) := fun W2 k => hao.below k
            rw [hak] at c8
            clear hC hAZ hlZ0 hk k1 hao hak
            rw [HZ.out]
            go_wp2_with (fail)
            go_quiet (fail)
            go_wp2_with (fail)
            obtain ⟨W2, hW2⟩ : ∃ W2, w1.drewN nq = W2 := ⟨_, rfl⟩
            have k12 : Below w1.heap.size w1 W2 := by rw [← hW2]; exact below_drewN (Below.refl _ _) _
            rw [hW2]
            have k02 := below_chain k01 k12
            have e0 : W2.cell? ⟨Z, 0, none⟩ = some (.int .i64 2) := (k12.cell (p := ⟨Z, 0, none⟩) hlZ).trans d0
            have e1 : W2.cell? ⟨Z, 1, none⟩ = some (.int .i64 id) := (k12.cell (p := ⟨Z, 1, none⟩) hlZ).trans d1
            have e2 : W2.cell? ⟨Z, 2, none⟩ = some (.slice a n cap) := (k12.cell (p := ⟨Z, 2, none⟩) hlZ).trans d2
            have f8 : W2.cell? ⟨B, 8, none⟩ = some (.slice aa an ac) := (k12.cell (p := ⟨B, 8, none⟩) hlB).trans c8
            have hlZ2 : Z < W2.heap.size := World.block_lt_of_cell? W2 _ e1
            have hlB2 : B < W2.heap.size := World.block_lt_of_cell? W2 _ f8
            have hso := sameOptions_any a aa cap ac n an os (asksL s.qs s.qm) W2.drew (HO.out _ (below_drew k02)) (HAO.out _ (below_drew k12)) (by omega) (by omega)
            have k02d := below_drew k02
            clear d0 d1 d2 c3 c8 hlB hlZ HR1 hW2 HAO
            go_region_with (go_at_call 29; refine hso.mono ?_; rintro e w4 ⟨rfl, m4, hw4⟩; have k24 : Below W2.drew.heap.size W2.drew w4 := (by rw [hw4]; exact below_drewN (Below.refl _ _) _); have y0 : w4.cell? ⟨Z, 0, none⟩ = some (.int .i64 2) := (k24.cell (p := ⟨Z, 0, none⟩) hlZ2).trans e0; have y1 : w4.cell? ⟨Z, 1, none⟩ = some (.int .i64 id) := (k24.cell (p := ⟨Z, 1, none⟩) hlZ2).trans e1; have y2 : w4.cell? ⟨Z, 2, none⟩ = some (.slice a n cap) := (k24.cell (p := ⟨Z, 2, none⟩) hlZ2).trans e2; have yl : Z < w4.heap.size := World.block_lt_of_cell? w4 _ y0; clear hw4)
            all_goals
              have k04 : Below w.heap.size w w4 := below_chain k02d k24
              have HK := HMN.out 8 (by decide) _ k04
              have HR4 := HRX.out _ k04
              clear hso k12
              by_cases hos : os = asksL s.qs s.qm
              · have hd : decide (os = asksL s.qs s.qm) = true := by simp [hos]
                have ea : Hid (ansP s 2 id os = evP s 8 (0, id, [])) := by
                  show ansP s 2 id os = _
                  unfold ansP
                  rw [if_neg (by simpa using HID.out), if_pos rfl, if_neg (by simpa using hos)]
                clear hos
                try rw [hd]
                go_wp2_with (fail)
                refine HK.mono ?_
                rintro e w5 ⟨rfl, hW⟩
                clear HK
                go_wp2_with (fail)
                go_ret
                rw [ea.out]
                exact ⟨rfl, hW⟩
              · have hd : decide (os = asksL s.qs s.qm) = false := by simp [hos]
                have ea : Hid (ansP s 2 id os = (s, [], 6)) := by
                  show ansP s 2 id os = _
                  unfold ansP
                  rw [if_neg (by simpa using HID.out), if_pos rfl, if_pos hos]
                clear hos HK
                try rw [hd]
                go_wp2_with (fail)
                go_ret
                rw [ea.out]
                exact ⟨rfl, RWent.still HR4.out (Kept.of_below B none k04)⟩
        · have hid : id ≠ s.ow := by simpa using hee
          have ea : ansP s code id os = (s, [], 6) := by
            unfold ansP
            rw [if_pos hid]
          rw [ea]
          clear ea hid
          go_enter Tryd.func14, Tryd.ntmps14
          go_wp2_with (fail)
          refine hC.mono ?_
          rintro e w1 ⟨rfl, k1⟩
          have d0 : w1.cell? ⟨Z, 0, none⟩ = some (.int .i64 code) := (k1.cell (p := ⟨Z, 0, none⟩) hlZ0).trans (hAZ 0)
          have d1 : w1.cell? ⟨Z, 1, none⟩ = some (.int .i64 id) := (k1.cell (p := ⟨Z, 1, none⟩) hlZ0).trans (hAZ 1)
          have hlZ : Z < w1.heap.size := World.block_lt_of_cell? w1 _ d0
          have k01 := below_chain hk k1
          have HR1 := HRX.out w1 k01
          have c3 : w1.cell? ⟨B, 3, none⟩ = some (.int .i64 s.ow) := HR1.out.blk.cell 3
          have hlB := HR1.out.blk.lt
          clear hC hAZ hlZ0 hk k1 HMN
          rw [HZ.out]
          go_wp2_with (fail)
          go_quiet (fail)
          go_wp2_with (fail)
          go_ret
          exact ⟨rfl, RWent.still (HR1.out.below (below_drewN (Below.refl _ _) _)) (Kept.of_below B none (below_drewN k01 _))⟩
  · exact rtake_fault B X s ak code id a n cap os w h ho hnn hck
theorem rtake_all (B : Nat) (X : Nat → Prop) (s : LS) (ak : Value) (st : Nat) (code id : Int) (a : Option Addr) (n cap : Nat) (os : List Opt) (w : World) (h : RRep w B X s ak (.slice none 0 0) []) (hb : Bd s 100) (hs : s.st = st) (hst : st < 10)
    (ho : OptR w a n os) (hnn : n ≤ 1000) (hfar : ∀ k, optOwn a n = some k → k ≠ B ∧ k < w.heap.size) (m1 : 0 ≤ s.nm) (m2 : s.nm ≤ 255) :
    Calls Tryd.prog 14 #[.pointer (some ⟨B, 0, none⟩), .agg #[.int .i64 code, .int .i64 id, .slice a n cap]] w fun e w' => e = .returned (.int .i64 ((takeP s (code, id, os)).2.2 : Int)) ∧ RWent w w' B X (takeP s (code, id, os)).1 (takeP s (code, id, os)).2.1 := by
  by_cases h1 : code = 1
  · subst h1
    by_cases hck : packF 1 id os = 0
    · have e : takeP s (1, id, os) = reqP s id os := by
        unfold takeP
        rw [if_neg (by simpa using hck), if_pos rfl]
      rw [e]
      exact rtake_one B X s ak st id a n cap os w h hb hs hst ho hnn hfar m1 m2 hck
    · exact rtake_fault B X s ak 1 id a n cap os w h ho hnn hck
  · exact rtake_else B X s ak st code id a n cap os w h hb hs hst ho hnn h1
end Go.Proofs.YtgfjgenkpfdofaaDoor
