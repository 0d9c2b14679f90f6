/-
  LinkAll2
-/
import Derived.Test.YtieklnlbljejdaaGreatDoorG19
namespace Go.Proofs.YtieklnlbljejdaaGreatDoor
open Go.RowKit
def LS.tell (s : LS) (code : Int) (os : List Opt) : LS := if 6 ≤ s.st then { s with ns := (toldR code os (s.ns, s.nm)).1, nm := (toldR code os (s.ns, s.nm)).2 } else s
def ansP (s : LS) (code id : Int) (os : List Opt) : LS × List APkt × Nat :=
 if id ≠ s.ow then (s, [], 6) else if code = 2 then (if os ≠ asksL s.qs s.qm then (s, [], 6) else evP s 8 (0, id, [])) else evP (s.tell code os) 9 (0, id, [])
set_option maxRecDepth 100000 in
set_option maxHeartbeats 8000000 in
theorem answer_all (B : Nat) (X : Nat → Prop) (s : LS) (v : Value) (ps : List PV) (code id : Int) (a : Option Addr) (n cap : Nat) (os : List Opt) (w : World) (hT : TabOk w) (hB0 : B ≠ 0) (hv0 : v.ownBlock ≠ some 0) (h : Rep w B X s v ps) (hb : Bd s 100) (hn : ps.length ≤ 50)
 (ho : OptR w a n os) (hnn : n ≤ 1000) :
 Calls Tryz.prog 212 #[.pointer (some ⟨B, 0, none⟩), .agg #[.int .i64 code, .int .i64 id, .slice a n cap]] w fun e w' => e = .returned (errV (ansP s code id os).2.2) ∧ Went w w' B X (ansP s code id os).1 v ps (ansP s code id os).2.1 := by
 have hk := below_alloc w (.cells #[.int .i64 code, .int .i64 id, .slice a n cap] 37)
 have hA := fun j => World.cell?_alloc_mark w #[.int .i64 code, .int .i64 id, .slice a n cap] 37 (0, 0) j
 have hl := h.lk.lt
 have h1 := h.below hk
 have hz : ∀ w : World, (zeroValue 37).run Tryz.prog w = .ok (.agg #[.int .i64 0, .int .i64 0, .slice none 0 0]) w := fun w => by kernel_rfl
 obtain ⟨W1, hW1⟩ : ∃ W1, w.alloc (.cells #[.int .i64 code, .int .i64 id, .slice a n cap] 37) = W1 := ⟨_, rfl⟩
 obtain ⟨Z, hZ⟩ : ∃ Z, w.heap.size = Z := ⟨_, rfl⟩
 have d0 : W1.cell? ⟨Z, 0, none⟩ = some (.int .i64 code) := by rw [← hW1, ← hZ]; exact hA 0
 have d1 : W1.cell? ⟨Z, 1, none⟩ = some (.int .i64 id) := by rw [← hW1, ← hZ]; exact hA 1
 have d2 : W1.cell? ⟨Z, 2, none⟩ = some (.slice a n cap) := by rw [← hW1, ← hZ]; exact hA 2
 rw [hW1] at h1 hk
 have HW : Hid (w.alloc (.cells #[.int .i64 code, .int .i64 id, .slice a n cap] 37) = W1) := hW1
 have HZ : Hid (w.heap.size = Z) := hZ
 have HBZ : Hid (B ≠ Z) := by show B ≠ Z; omega
 clear hA hW1 hZ hl
 have c2 : W1.cell? ⟨B, 2, none⟩ = some (.int .i64 s.ns) := h1.lk.cell 2
 have c3 : W1.cell? ⟨B, 3, none⟩ = some (.int .i64 s.nm) := h1.lk.cell 3
 have c4 : W1.cell? ⟨B, 4, none⟩ = some (.int .i64 s.qs) := h1.lk.cell 4
 have c5 : W1.cell? ⟨B, 5, none⟩ = some (.int .i64 s.qm) := h1.lk.cell 5
 have c6 : W1.cell? ⟨B, 6, none⟩ = some (.int .i64 s.st) := h1.lk.cell 6
 have c10 : W1.cell? ⟨B, 10, none⟩ = some (.int .i64 s.ow) := h1.lk.cell 10
 have hlB := h1.lk.lt
 have hlZ : Z < W1.heap.size := World.block_lt_of_cell? W1 _ d1
 cases hee : (id != s.ow)
 · have hid : id = s.ow := by simpa using hee
   cases h22 : (code == 2)
   · have hc2 : code ≠ 2 := by simpa using h22
     have ea : ansP s code id os = evP (s.tell code os) 9 (0, id, []) := by
      unfold ansP
      rw [if_neg (by simpa using hid), if_neg hc2]
     rw [ea]
     clear ea hc2 hid
     by_cases h6 : 6 ≤ s.st
     · have et : s.tell code os = { s with ns := (toldR code os (s.ns, s.nm)).1, nm := (toldR code os (s.ns, s.nm)).2 } := by unfold LS.tell; rw [if_pos h6]
       rw [et]
       clear et
       have hTo := fun (W : World) (hW : Below w.heap.size w W) => told_any s.ns s.nm code a n cap os W (by omega) (ho.below hW)
       generalize (toldR code os (s.ns, s.nm)).1 = ts at hTo ⊢
       generalize (toldR code os (s.ns, s.nm)).2 = tm at hTo ⊢
       obtain ⟨E, hE⟩ : ∃ E, errV (evP { s with ns := ts, nm := tm } 9 (0, id, [])).2.2 = E := ⟨_, rfl⟩
       obtain ⟨S', hS'⟩ : ∃ S', (evP { s with ns := ts, nm := tm } 9 (0, id, [])).1 = S' := ⟨_, rfl⟩
       obtain ⟨O', hO'⟩ : ∃ O', (evP { s with ns := ts, nm := tm } 9 (0, id, [])).2.1 = O' := ⟨_, rfl⟩
       rw [hE, hS', hO']
       have HE : Hid _ := And.intro hE (And.intro hS' hO')
       have HTo : Hid _ := hTo
       clear hE hS' hO' hTo
       go_enter Tryz.func212, Tryz.ntmps212
       go_wp2_with (fail)
       rw [HW.out, HZ.out]
       go_quiet (fail)
       go_wp2_with (fail)
       obtain ⟨W2, hW2⟩ : ∃ W2, W1.drewN nq = W2 := ⟨_, rfl⟩
       have k12 : Below W1.heap.size W1 W2 := by rw [← hW2]; exact below_drewN (Below.refl _ _) _
       rw [hW2]
       have R2 := h1.below k12
       have e0 : W2.cell? ⟨Z, 0, none⟩ = some (.int .i64 code) := (k12.cell (p := ⟨Z, 0, none⟩) hlZ).trans d0
       have e1 : W2.cell? ⟨Z, 1, none⟩ = some (.int .i64 id) := (k12.cell (p := ⟨Z, 1, none⟩) hlZ).trans d1
       have e2 : W2.cell? ⟨Z, 2, none⟩ = some (.slice a n cap) := (k12.cell (p := ⟨Z, 2, none⟩) hlZ).trans d2
       have f2 : W2.cell? ⟨B, 2, none⟩ = some (.int .i64 s.ns) := R2.lk.cell 2
       have f3 : W2.cell? ⟨B, 3, none⟩ = some (.int .i64 s.nm) := R2.lk.cell 3
       have hlB2 := R2.lk.lt
       have hlZ2 : Z < W2.heap.size := World.block_lt_of_cell? W2 _ e1
       have k02 := below_chain hk k12
       have HR2 : Hid _ := R2
       have hC := HTo.out W2.drew (below_drew k02)
       clear d0 d1 d2 c2 c3 c4 c5 c6 c10 h1 hW2 k12 hlB hlZ R2 HTo
       go_region_with (go_at_call 231; refine hC.mono ?_; rintro e w3 ⟨rfl, b3⟩; have k23 : Below W2.heap.size W2 w3 := below_chain (below_drew (Below.refl _ _)) b3; have R3 := HR2.out.below k23; have g2 : w3.cell? ⟨B, 2, none⟩ = some (.int .i64 s.ns) := R3.lk.cell 2; have g3 : w3.cell? ⟨B, 3, none⟩ = some (.int .i64 s.nm) := R3.lk.cell 3; have gf : ∀ j, w3.frozen? ⟨B, j, none⟩ = false := R3.lk.frozen; have gl := R3.lk.lt; have z1 : w3.cell? ⟨Z, 1, none⟩ = some (.int .i64 id) := (k23.cell (p := ⟨Z, 1, none⟩) hlZ2).trans e1)
       all_goals
        have R4 : Rep ((w3.setCell ⟨B, 2, none⟩ (.int .i64 ts)).setCell ⟨B, 3, none⟩ (.int .i64 tm)) B X { s with ns := ts, nm := tm } v ps := (R3.setC 2 _ { s with ns := ts } rfl).setC 3 _ _ rfl
        have K4 : Kept w ((w3.setCell ⟨B, 2, none⟩ (.int .i64 ts)).setCell ⟨B, 3, none⟩ (.int .i64 tm)) B v.ownBlock := kept_set (kept_set (Kept.of_below B _ (below_chain k02 k23)) 2 _) 3 _
        have HC := come_all B X { s with ns := ts, nm := tm } v ps ⟨0, id, none, 0, 0, []⟩ 9 _ (K4.tab hT hB0 hv0) R4 ⟨hb.o1, hb.o2, hb.l1, hb.l2⟩ (pv_none _ _ _ _ _) hn
        have hab : PV.abs ⟨0, id, none, 0, 0, []⟩ = (0, id, []) := rfl
        rw [hab, HE.out.1, HE.out.2.1, HE.out.2.2] at HC
        clear hab HE R4 R3 hC
        have hlz3 : Z < w3.heap.size := World.block_lt_of_cell? w3 _ z1
        have hBZ := HBZ.out
        go_wp2_with (fail)
        refine HC.mono ?_
        rintro e w5 ⟨rfl, hW⟩
        clear HC
        go_wp2_with (fail)
        go_ret
        exact ⟨rfl, hW.from K4⟩
     · have et : s.tell code os = s := by unfold LS.tell; rw [if_neg h6]
       rw [et]
       clear et
       go_enter Tryz.func212, Tryz.ntmps212
       go_wp2_with (fail)
       rw [HW.out, HZ.out]
       go_quiet (fail)
       obtain ⟨W2, hW2⟩ : ∃ W2, W1.drewN nq = W2 := ⟨_, rfl⟩
       have k12 : Below W1.heap.size W1 W2 := by rw [← hW2]; exact below_drewN (Below.refl _ _) _
       rw [hW2]
       have R2 := h1.below k12
       have e0 : W2.cell? ⟨Z, 0, none⟩ = some (.int .i64 code) := (k12.cell (p := ⟨Z, 0, none⟩) hlZ).trans d0
       have e1 : W2.cell? ⟨Z, 1, none⟩ = some (.int .i64 id) := (k12.cell (p := ⟨Z, 1, none⟩) hlZ).trans d1
       have f6 : W2.cell? ⟨B, 6, none⟩ = some (.int .i64 s.st) := R2.lk.cell 6
       have hlB2 := R2.lk.lt
       have hlZ2 : Z < W2.heap.size := World.block_lt_of_cell? W2 _ e1
       have k02 := below_chain hk k12
       have HC := come_all B X s v ps ⟨0, id, none, 0, 0, []⟩ 9 _ (hT.below k02) R2 hb (pv_none _ _ _ _ _) hn
       clear d0 d1 d2 c2 c3 c4 c5 c6 c10 h1 hW2 k12 hlB hlZ R2
       go_wp2_with (fail)
       refine HC.mono ?_
       rintro e w5 ⟨rfl, hW⟩
       clear HC
       go_wp2_with (fail)
       go_ret
       exact ⟨rfl, hW.from (Kept.of_below B v.ownBlock k02)⟩
   · have hc2 : code = 2 := by simpa using h22
     subst hc2
     have HID : Hid _ := hid
     clear h22 hid
     go_enter Tryz.func212, Tryz.ntmps212
     go_wp2_with (fail)
     rw [HW.out, HZ.out]
     go_quiet (fail)
     go_wp2_with (fail)
     obtain ⟨W2, hW2⟩ : ∃ W2, W1.drewN nq = W2 := ⟨_, rfl⟩
     have k12 : Below W1.heap.size W1 W2 := by rw [← hW2]; exact below_drewN (Below.refl _ _) _
     rw [hW2]
     have R2 := h1.below k12
     have e0 : W2.cell? ⟨Z, 0, none⟩ = some (.int .i64 2) := (k12.cell (p := ⟨Z, 0, none⟩) hlZ).trans d0
     have e1 : W2.cell? ⟨Z, 1, none⟩ = some (.int .i64 id) := (k12.cell (p := ⟨Z, 1, none⟩) hlZ).trans d1
     have e2 : W2.cell? ⟨Z, 2, none⟩ = some (.slice a n cap) := (k12.cell (p := ⟨Z, 2, none⟩) hlZ).trans d2
     have f4 : W2.cell? ⟨B, 4, none⟩ = some (.int .i64 s.qs) := R2.lk.cell 4
     have f5 : W2.cell? ⟨B, 5, none⟩ = some (.int .i64 s.qm) := R2.lk.cell 5
     have hlB2 := R2.lk.lt
     have hlZ2 : Z < W2.heap.size := World.block_lt_of_cell? W2 _ e1
     have k02 := below_chain hk k12
     clear d0 d1 d2 c2 c3 c4 c5 c6 c10 h1 hW2 k12 hlB hlZ hee
     go_region_with (first
      | (go_at_call 224; refine (asks_any s.qs s.qm _).mono ?_; rintro e w3 ⟨u, rfl, hM⟩; obtain ⟨ua, uc, rfl, un, ul⟩ := hM.shape; have k3 := hM.below; have g2 : w3.cell? ⟨Z, 2, none⟩ = some (.slice a n cap) := (k3.cell (p := ⟨Z, 2, none⟩) hlZ2).trans e2)
      | (go_at_call 230; refine (equal_any a ua cap uc n _ os (asksL s.qs s.qm) w3 (ho.below (below_chain (below_drew k02) k3)) hM.opts.2 (by omega) (by have := asksL_few s.qs s.qm; omega)).mono ?_; rintro e w4 ⟨rfl, m4, rfl⟩))
     all_goals
      have k04 : Below w.heap.size w (w3.drewN m4) := below_drewN (below_chain (below_drew k02) k3) m4
      have k24 : Below W2.heap.size W2 (w3.drewN m4) := below_drewN (below_chain (below_drew (Below.refl _ _)) k3) m4
      have R4 := R2.below k24
      have g1 : (w3.drewN m4).cell? ⟨Z, 1, none⟩ = some (.int .i64 id) := (k24.cell (p := ⟨Z, 1, none⟩) hlZ2).trans e1
      have hlZ4 : Z < (w3.drewN m4).heap.size := World.block_lt_of_cell? _ _ g1
      have HC := come_all B X s v ps ⟨0, id, none, 0, 0, []⟩ 8 _ (hT.below k04) R4 hb (pv_none _ _ _ _ _) hn
      have HR4 : Hid _ := R4
      clear R2 R4 k24 hM
      by_cases hos : os = asksL s.qs s.qm
      · have hd : decide (os = asksL s.qs s.qm) = true := by simp [hos]
        have ea : ansP s 2 id os = evP s 8 (0, id, []) := by
         unfold ansP
         rw [if_neg (by simpa using HID.out), if_pos rfl, if_neg (by simpa using hos)]
        clear hos
        try rw [hd]
        go_wp2_with (fail)
        refine HC.mono ?_
        rintro e w5 ⟨rfl, hW⟩
        clear HC
        go_wp2_with (fail)
        go_ret
        rw [ea]
        exact ⟨rfl, hW.from (Kept.of_below B v.ownBlock k04)⟩
      · have hd : decide (os = asksL s.qs s.qm) = false := by simp [hos]
        have ea : ansP s 2 id os = (s, [], 6) := by
         unfold ansP
         rw [if_neg (by simpa using HID.out), if_pos rfl, if_pos hos]
        clear hos HC
        try rw [hd]
        go_wp2_with (fail)
        go_ret
        rw [ea]
        exact ⟨rfl, Went.still HR4.out (Kept.of_below B v.ownBlock k04)⟩
 · have hid : id ≠ s.ow := by simpa using hee
   have ea : ansP s code id os = (s, [], 6) := by
    unfold ansP
    rw [if_pos hid]
   rw [ea]
   clear ea hid
   go_enter Tryz.func212, Tryz.ntmps212
   go_wp2_with (fail)
   rw [HW.out, HZ.out]
   go_quiet (fail)
   go_wp2_with (fail)
   go_ret
   exact ⟨rfl, Went.still (h1.below (below_drewN (Below.refl _ _) _)) (Kept.of_below B v.ownBlock (below_drewN hk _))⟩
def takeP (s : LS) (p : APkt) : LS × List APkt × Nat :=
 if packF p.1 p.2.1 p.2.2 ≠ 0 then (s, [], packF p.1 p.2.1 p.2.2) else if p.1 = 1 then reqP s p.2.1 p.2.2 else if p.1 = 5 then evP s 10 (0, p.2.1, []) else if p.1 = 6 then evP s 11 (0, p.2.1, []) else ansP s p.1 p.2.1 p.2.2
set_option maxRecDepth 100000 in
set_option maxHeartbeats 8000000 in
theorem take_all (B : Nat) (X : Nat → Prop) (s : LS) (v : Value) (ps : List PV) (p : PV) (w : World) (hT : TabOk w) (hB0 : B ≠ 0) (hv0 : v.ownBlock ≠ some 0) (h : Rep w B X s v ps) (hb : Bd s 100) (hn : ps.length ≤ 50) (hp : PvOk w X v p) (m1 : 0 ≤ s.nm) (m2 : s.nm ≤ 255) :
 Calls Tryz.prog 185 #[.pointer (some ⟨B, 0, none⟩), .agg #[.int .i64 p.code, .int .i64 p.id, .slice p.a p.n p.cap]] w fun e w' => e = .returned (errV (takeP s p.abs).2.2) ∧ Went w w' B X (takeP s p.abs).1 v ps (takeP s p.abs).2.1 := by
 obtain ⟨code, id, a, n, cap, os⟩ := p
 obtain ⟨ho, hnil, hle, hfew, hfar⟩ := hp
 simp only at ho hnil hle hfew
 have hfar' : ∀ k, optOwn a n = some k → ¬ X k ∧ v.ownBlock ≠ some k ∧ k < w.heap.size := hfar
 have hab : PV.abs ⟨code, id, a, n, cap, os⟩ = (code, id, os) := rfl
 rw [hab]
 have hk := below_alloc w (.cells #[.int .i64 code, .int .i64 id, .slice a n cap] 37)
 have hA := fun j => World.cell?_alloc_mark w #[.int .i64 code, .int .i64 id, .slice a n cap] 37 (0, 0) j
 have hC := check_any code id a n cap os _ (by omega) hle (ho.below hk)
 have hz : ∀ w : World, (zeroValue 37).run Tryz.prog w = .ok (.agg #[.int .i64 0, .int .i64 0, .slice none 0 0]) w := fun w => by kernel_rfl
 obtain ⟨Z, hZ⟩ : ∃ Z, w.heap.size = Z := ⟨_, rfl⟩
 have hAZ : ∀ j, (w.alloc (.cells #[.int .i64 code, .int .i64 id, .slice a n cap] 37)).cell? ⟨Z, j, none⟩ = #[.int .i64 code, .int .i64 id, .slice a n cap][j]? := by rw [← hZ]; exact hA
 have hlZ0 : Z < (w.alloc (.cells #[.int .i64 code, .int .i64 id, .slice a n cap] 37)).heap.size := by simp; omega
 have HZ : Hid (w.heap.size = Z) := hZ
 clear hA hZ hfar hab
 by_cases hck : packF code id os = 0
 · have e0 : errV 0 = .nilIface := rfl
   rw [hck, e0] at hC
   have main : ∀ (ev : Int), ∀ W2 : World, Below w.heap.size w W2 → Calls Tryz.prog 171 #[.pointer (some ⟨B, 0, none⟩), .int .i64 ev, .agg #[.int .i64 0, .int .i64 id, .slice none 0 0]] W2 fun e w' => e = .returned (errV (evP s ev (0, id, [])).2.2) ∧ Went w w' B X (evP s ev (0, id, [])).1 v ps (evP s ev (0, id, [])).2.1 := by
    intro ev W2 k
    refine (come_all B X s v ps ⟨0, id, none, 0, 0, []⟩ ev W2 (hT.below k) (h.below k) hb (pv_none _ _ _ _ _) hn).mono ?_
    rintro e w' ⟨rfl, hW⟩
    exact ⟨rfl, hW.from (Kept.of_below B v.ownBlock k)⟩
   have etk : takeP s (code, id, os) = if code = 1 then reqP s id os else if code = 5 then evP s 10 (0, id, []) else if code = 6 then evP s 11 (0, id, []) else ansP s code id os := by
    unfold takeP
    rw [if_neg (by simpa using hck)]
   rw [etk]
   clear etk hck e0
   by_cases h1 : code = 1
   · subst h1
     rw [if_pos rfl]
     have HH : ∀ W2 : World, Below w.heap.size w W2 → Calls Tryz.prog 211 #[.pointer (some ⟨B, 0, none⟩), .agg #[.int .i64 1, .int .i64 id, .slice a n cap]] W2 fun e w' => e = .returned (errV (reqP s id os).2.2) ∧ Went w w' B X (reqP s id os).1 v ps (reqP s id os).2.1 := by
      intro W2 k
      refine (request_all B X s v ps id a n cap os W2 (hT.below k) (h.below k) hb hn (ho.below k) (fun j hj2 => by obtain ⟨q1, q2, q3⟩ := hfar' j hj2; exact ⟨q1, q2, Nat.lt_of_lt_of_le q3 k.size⟩) hnil (by omega) m1 m2).mono ?_
      rintro e w' ⟨rfl, hW⟩
      exact ⟨rfl, hW.from (Kept.of_below B v.ownBlock k)⟩
     clear main hfar' h ho
     go_enter Tryz.func185, Tryz.ntmps185
     go_wp2_with (fail)
     refine hC.mono ?_
     rintro e w1 ⟨rfl, k1⟩
     have d0 : w1.cell? ⟨Z, 0, none⟩ = some (.int .i64 1) := (k1.cell (p := ⟨Z, 0, none⟩) hlZ0).trans (hAZ 0)
     have d1 : w1.cell? ⟨Z, 1, none⟩ = some (.int .i64 id) := (k1.cell (p := ⟨Z, 1, none⟩) hlZ0).trans (hAZ 1)
     have d2 : w1.cell? ⟨Z, 2, none⟩ = some (.slice a n cap) := (k1.cell (p := ⟨Z, 2, none⟩) hlZ0).trans (hAZ 2)
     have hl1 : Z < w1.heap.size := World.block_lt_of_cell? w1 _ d0
     have HK := HH w1 (below_chain hk k1)
     clear hC hAZ hlZ0 HH
     rw [HZ.out]
     go_wp2_with (fail)
     refine HK.mono ?_
     rintro e w2 ⟨rfl, hW⟩
     clear HK
     go_wp2_with (fail)
     go_ret
     exact ⟨rfl, hW⟩
   · rw [if_neg h1]
     have b1 : (code == 1) = false := by simpa using h1
     by_cases h5 : code = 5
     · subst h5
       rw [if_pos rfl]
       clear hfar' h ho
       go_enter Tryz.func185, Tryz.ntmps185
       go_wp2_with (fail)
       refine hC.mono ?_
       rintro e w1 ⟨rfl, k1⟩
       have d0 : w1.cell? ⟨Z, 0, none⟩ = some (.int .i64 5) := (k1.cell (p := ⟨Z, 0, none⟩) hlZ0).trans (hAZ 0)
       have d1 : w1.cell? ⟨Z, 1, none⟩ = some (.int .i64 id) := (k1.cell (p := ⟨Z, 1, none⟩) hlZ0).trans (hAZ 1)
       have hl1 : Z < w1.heap.size := World.block_lt_of_cell? w1 _ d0
       have HK := main 10 w1 (below_chain hk k1)
       clear hC hAZ hlZ0 main
       rw [HZ.out]
       go_wp2_with (fail)
       refine HK.mono ?_
       rintro e w2 ⟨rfl, hW⟩
       clear HK
       go_wp2_with (fail)
       go_ret
       exact ⟨rfl, hW⟩
     · rw [if_neg h5]
       have b5 : (code == 5) = false := by simpa using h5
       by_cases h6 : code = 6
       · subst h6
         rw [if_pos rfl]
         clear hfar' h ho
         go_enter Tryz.func185, Tryz.ntmps185
         go_wp2_with (fail)
         refine hC.mono ?_
         rintro e w1 ⟨rfl, k1⟩
         have d0 : w1.cell? ⟨Z, 0, none⟩ = some (.int .i64 6) := (k1.cell (p := ⟨Z, 0, none⟩) hlZ0).trans (hAZ 0)
         have d1 : w1.cell? ⟨Z, 1, none⟩ = some (.int .i64 id) := (k1.cell (p := ⟨Z, 1, none⟩) hlZ0).trans (hAZ 1)
         have hl1 : Z < w1.heap.size := World.block_lt_of_cell? w1 _ d0
         have HK := main 11 w1 (below_chain hk k1)
         clear hC hAZ hlZ0 main
         rw [HZ.out]
         go_wp2_with (fail)
         refine HK.mono ?_
         rintro e w2 ⟨rfl, hW⟩
         clear HK
         go_wp2_with (fail)
         go_ret
         exact ⟨rfl, hW⟩
       · rw [if_neg h6]
         have b6 : (code == 6) = false := by simpa using h6
         have HH : ∀ W2 : World, Below w.heap.size w W2 → Calls Tryz.prog 212 #[.pointer (some ⟨B, 0, none⟩), .agg #[.int .i64 code, .int .i64 id, .slice a n cap]] W2 fun e w' => e = .returned (errV (ansP s code id os).2.2) ∧ Went w w' B X (ansP s code id os).1 v ps (ansP s code id os).2.1 := by
          intro W2 k
          refine (answer_all B X s v ps code id a n cap os W2 (hT.below k) hB0 hv0 (h.below k) hb hn (ho.below k) (by omega)).mono ?_
          rintro e w' ⟨rfl, hW⟩
          exact ⟨rfl, hW.from (Kept.of_below B v.ownBlock k)⟩
         clear main hfar' h ho h1 h5 h6
         go_enter Tryz.func185, Tryz.ntmps185
         go_wp2_with (fail)
         refine hC.mono ?_
         rintro e w1 ⟨rfl, k1⟩
         have d0 : w1.cell? ⟨Z, 0, none⟩ = some (.int .i64 code) := (k1.cell (p := ⟨Z, 0, none⟩) hlZ0).trans (hAZ 0)
         have d1 : w1.cell? ⟨Z, 1, none⟩ = some (.int .i64 id) := (k1.cell (p := ⟨Z, 1, none⟩) hlZ0).trans (hAZ 1)
         have d2 : w1.cell? ⟨Z, 2, none⟩ = some (.slice a n cap) := (k1.cell (p := ⟨Z, 2, none⟩) hlZ0).trans (hAZ 2)
         have hl1 : Z < w1.heap.size := World.block_lt_of_cell? w1 _ d0
         have HK := HH w1 (below_chain hk k1)
         clear hC hAZ hlZ0 HH
         rw [HZ.out]
         go_wp2_with (fail)
         refine HK.mono ?_
         rintro e w2 ⟨rfl, hW⟩
         clear HK
         go_wp2_with (fail)
         go_ret
         exact ⟨rfl, hW⟩
 · have etk : takeP s (code, id, os) = (s, [], packF code id os) := by
    unfold takeP
    rw [if_pos hck]
   rw [etk]
   have ee : errV (packF code id os) = .iface 128 (.int .i64 (packF code id os : Int)) := by simp only [errV]; rw [if_neg hck]
   simp only [ee] at hC ⊢
   have HR : Hid (∀ W2 : World, Below w.heap.size w W2 → Rep W2 B X s v ps) := fun W2 k => h.below k
   clear etk hck ee h ho
   generalize packF code id os = f at hC ⊢
   go_enter Tryz.func185, Tryz.ntmps185
   go_wp2_with (fail)
   refine hC.mono ?_
   rintro e w1 ⟨rfl, k1⟩
   clear hC
   go_wp2_with (fail)
   go_ret
   exact ⟨rfl, Went.still (HR.out _ (below_chain hk k1)) (Kept.of_below B v.ownBlock (below_chain hk k1))⟩
def doP (s : LS) (ev : Int) : LS × List APkt × Nat := if ev = 0 ∨ ev = 1 ∨ ev = 2 ∨ ev = 3 then evP s ev (0, 0, []) else (s, [], 1)
set_option maxRecDepth 100000 in
set_option maxHeartbeats 2000000 in
theorem do_all (ev : Int) (B : Nat) (X : Nat → Prop) (s : LS) (v : Value) (ps : List PV) (w : World) (hT : TabOk w) (h : Rep w B X s v ps) (hb : Bd s 100) (hn : ps.length ≤ 50) :
 Calls Tryz.prog 120 #[.pointer (some ⟨B, 0, none⟩), .int .i64 ev] w fun e w' => e = .returned (errV (doP s ev).2.2) ∧ Went w w' B X (doP s ev).1 v ps (doP s ev).2.1 := by
 have hz := zeroPacket
 have hc := come_all B X s v ps ⟨0, 0, none, 0, 0, []⟩ ev w hT h hb (pv_none _ _ _ _ _) hn
 by_cases hev : ev = 0 ∨ ev = 1 ∨ ev = 2 ∨ ev = 3
 · have e : doP s ev = evP s ev (0, 0, []) := by unfold doP; rw [if_pos hev]
   rw [e]
   clear h hT hb e
   rcases hev with rfl | rfl | rfl | rfl
   all_goals
    go_enter Tryz.func120, Tryz.ntmps120
    go_wp2_with (fail)
    refine hc.mono ?_
    rintro e w1 ⟨rfl, hW⟩
    clear hc
    go_wp2_with (fail)
    go_ret
    exact ⟨rfl, hW⟩
 · have e : doP s ev = (s, [], 1) := by unfold doP; rw [if_neg hev]
   rw [e]
   have b0 : (ev == 0) = false := by simp; omega
   have b1 : (ev == 1) = false := by simp; omega
   have b2 : (ev == 2) = false := by simp; omega
   have b3 : (ev == 3) = false := by simp; omega
   have HW : Hid (Went w w B X s v ps []) := Went.still h (Kept.refl _ _ _)
   clear hc h hT hb e hev
   go_enter Tryz.func120, Tryz.ntmps120
   go_wp2_with (fail)
   go_ret
   exact ⟨rfl, HW.out⟩
end Go.Proofs.YtieklnlbljejdaaGreatDoor
