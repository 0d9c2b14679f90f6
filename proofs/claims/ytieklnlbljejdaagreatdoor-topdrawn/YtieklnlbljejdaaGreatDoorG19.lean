/-
  LinkDo LinkAll RLink LinkOpen
-/
import Derived.Test.YtieklnlbljejdaaGreatDoorG01
import Derived.Test.YtieklnlbljejdaaGreatDoorG05
import Derived.Test.YtieklnlbljejdaaGreatDoorG16
import Derived.Test.YtieklnlbljejdaaGreatDoorG18
namespace Go.Proofs.YtieklnlbljejdaaGreatDoor
open Go.RowKit
theorem zeroPacket (w : World) : (zeroValue 37).run Tryz.prog w = .ok (.agg #[.int .i64 0, .int .i64 0, .slice none 0 0]) w := by kernel_rfl
set_option maxRecDepth 100000 in
set_option maxHeartbeats 2000000 in
theorem do_rep (ev : Int) (hev : ev = 0 ∨ ev = 1 ∨ ev = 2 ∨ ev = 3) (B : Nat) (X : Nat → Prop) (s : LS) (v : Value) (ps : List PV) (w : World) (hT : TabOk w) (h : Rep w B X s v ps) (hb : Bd s 100) (hn : ps.length ≤ 50) (hf : (stepI s.st ev).2.2 = 0) :
 Calls Tryz.prog 120 #[.pointer (some ⟨B, 0, none⟩), .int .i64 ev] w fun e w' => e = .returned .nilIface ∧ Went w w' B X (comeS s ev) v ps (comeO s ev (0, 0, [])) := by
 have hz := zeroPacket
 have hc := come_ok B X s v ps ⟨0, 0, none, 0, 0, []⟩ ev w hT h hb (pv_none _ _ _ _ _) hn hf
 clear h hT hb hf
 rcases hev with rfl | rfl | rfl | rfl
 all_goals
  go_enter Tryz.func120, Tryz.ntmps120
  go_wp2_with (fail)
  refine hc.mono ?_
  rintro e w1 ⟨rfl, hW⟩
  clear hc
  go_wp2_with (fail)
  go_ret
  exact ⟨rfl, hW⟩
set_option maxRecDepth 100000 in
theorem state_rep (B : Nat) (X : Nat → Prop) (s : LS) (v : Value) (ps : List PV) (w : World) (h : Rep w B X s v ps) :
 Calls Tryz.prog 114 #[.pointer (some ⟨B, 0, none⟩)] w fun e w' => e = .returned (.int .i64 s.st) ∧ w = w' := by
 have hl := h.lk.lt
 have c6 : w.cell? ⟨B, 6, none⟩ = some (.int .i64 s.st) := h.lk.cell 6
 clear h
 go_enter Tryz.func114, Tryz.ntmps114
 go_wp2_with (fail)
 go_ret
 exact ⟨rfl, rfl⟩
def tickS (s : LS) : LS := if (decide (4 ≤ s.st) && decide (s.st ≤ 8)) = false then s else if 0 < s.wt - 1 then { s with wt := s.wt - 1 } else if 0 < s.lf then comeS { s with wt := s.wt - 1 } 4 else comeS { s with wt := s.wt - 1 } 5
def tickO (s : LS) : List APkt := if (decide (4 ≤ s.st) && decide (s.st ≤ 8)) = false then [] else if 0 < s.wt - 1 then [] else if 0 < s.lf then comeO { s with wt := s.wt - 1 } 4 (0, 0, []) else comeO { s with wt := s.wt - 1 } 5 (0, 0, [])
theorem timed_comes : ∀ s : Nat, 4 ≤ s → s ≤ 8 → (stepR s 4).2.2 = 0 ∧ (stepR s 5).2.2 = 0 := by
 intro s h1 h2
 exact (show ∀ s, s < 9 → 4 ≤ s → (stepR s 4).2.2 = 0 ∧ (stepR s 5).2.2 = 0 by decide +kernel) s (by omega) h1
set_option maxRecDepth 100000 in
set_option maxHeartbeats 4000000 in
theorem tick_rep (B : Nat) (X : Nat → Prop) (s : LS) (v : Value) (ps : List PV) (w : World) (hT : TabOk w) (hB : B ≠ 0) (hv0 : v.ownBlock ≠ some 0) (h : Rep w B X s v ps) (hb : Bd s 100) (hn : ps.length ≤ 50) (w1 : -1000 ≤ s.wt) (w2 : s.wt ≤ 1000) :
 Calls Tryz.prog 147 #[.pointer (some ⟨B, 0, none⟩)] w fun e w' => e = .returned (.tuple #[]) ∧ Went w w' B X (tickS s) v ps (tickO s) := by
 have hz := zeroPacket
 have hl := h.lk.lt
 have c6 : w.cell? ⟨B, 6, none⟩ = some (.int .i64 s.st) := h.lk.cell 6
 have c8 : w.cell? ⟨B, 8, none⟩ = some (.int .i64 s.lf) := h.lk.cell 8
 have c9 : w.cell? ⟨B, 9, none⟩ = some (.int .i64 s.wt) := h.lk.cell 9
 have fz : ∀ j, w.frozen? ⟨B, j, none⟩ = false := h.lk.frozen
 have htm := timed_any s.st w
 cases ht : (decide (4 ≤ s.st) && decide (s.st ≤ 8))
 · have e1 : tickS s = s := by unfold tickS; rw [if_pos ht]
   have e2 : tickO s = [] := by unfold tickO; rw [if_pos ht]
   rw [e1, e2]
   rw [ht] at htm
   have HW : Hid (Went w w B X s v ps []) := Went.still h (Kept.refl _ _ _)
   clear h hb e1 e2 ht
   go_enter Tryz.func147, Tryz.ntmps147
   go_wp2_with (fail)
   refine htm.mono ?_
   rintro e w3 ⟨rfl, rfl⟩
   go_wp2_with (fail)
   first | go_end0 | refine bodyPost_ret (results_none rfl _ _ _) rfl ?_
   exact ⟨rfl, HW.out⟩
 · have h2 : Rep (w.setCell ⟨B, 9, none⟩ (.int .i64 (s.wt - 1))) B X { s with wt := s.wt - 1 } v ps := h.setC 9 _ _ rfl
   have hk2 : Kept w (w.setCell ⟨B, 9, none⟩ (.int .i64 (s.wt - 1))) B v.ownBlock := kept_set (Kept.refl _ _ _) 9 _
   have hT2 := hk2.tab hT hB hv0
   have hb2 : Bd { s with wt := s.wt - 1 } 100 := ⟨hb.o1, hb.o2, hb.l1, hb.l2⟩
   have hst : 4 ≤ s.st ∧ s.st ≤ 8 := by simpa using ht
   have hev : (stepI s.st 4).2.2 = 0 ∧ (stepI s.st 5).2.2 = 0 := by
    obtain ⟨st', hst'⟩ : ∃ st' : Nat, s.st = st' := ⟨s.st.toNat, by omega⟩
    rw [hst']
    have := timed_comes st' (by omega) (by omega)
    rw [show (4 : Int) = ((4 : Nat) : Int) from rfl, show (5 : Int) = ((5 : Nat) : Int) from rfl, stepI_in st' 4 (by omega) (by decide), stepI_in st' 5 (by omega) (by decide)]
    exact this
   by_cases hw : 0 < s.wt - 1
   · have e1 : tickS s = { s with wt := s.wt - 1 } := by unfold tickS; rw [if_neg (by rw [ht]; simp), if_pos hw]
     have e2 : tickO s = [] := by unfold tickO; rw [if_neg (by rw [ht]; simp), if_pos hw]
     rw [e1, e2]
     rw [ht] at htm
     have HW : Hid (Went w _ B X _ v ps []) := Went.still h2 hk2
     clear h h2 hb hb2 e1 e2 ht hev hst hT2 hk2
     go_enter Tryz.func147, Tryz.ntmps147
     go_wp2_with (fail)
     refine htm.mono ?_
     rintro e w3 ⟨rfl, rfl⟩
     go_wp2_with (fail)
     first | go_end0 | refine bodyPost_ret (results_none rfl _ _ _) rfl ?_
     exact ⟨rfl, HW.out⟩
   · by_cases hlf : 0 < s.lf
     · have e1 : tickS s = comeS { s with wt := s.wt - 1 } 4 := by unfold tickS; rw [if_neg (by rw [ht]; simp), if_neg hw, if_pos hlf]
       have e2 : tickO s = comeO { s with wt := s.wt - 1 } 4 (0, 0, []) := by unfold tickO; rw [if_neg (by rw [ht]; simp), if_neg hw, if_pos hlf]
       rw [e1, e2]
       rw [ht] at htm
       have hc := come_ok B X { s with wt := s.wt - 1 } v ps ⟨0, 0, none, 0, 0, []⟩ 4 _ hT2 h2 hb2 (pv_none _ _ _ _ _) hn hev.1
       clear h h2 hb hb2 e1 e2 ht hev hst hT2
       go_enter Tryz.func147, Tryz.ntmps147
       go_wp2_with (fail)
       refine htm.mono ?_
       rintro e w3 ⟨rfl, rfl⟩
       go_wp2_with (fail)
       refine hc.mono ?_
       rintro e w4 ⟨rfl, hW⟩
       clear hc
       go_wp2_with (fail)
       first | go_end0 | refine bodyPost_ret (results_none rfl _ _ _) rfl ?_
       exact ⟨rfl, hW.from hk2⟩
     · have e1 : tickS s = comeS { s with wt := s.wt - 1 } 5 := by unfold tickS; rw [if_neg (by rw [ht]; simp), if_neg hw, if_neg hlf]
       have e2 : tickO s = comeO { s with wt := s.wt - 1 } 5 (0, 0, []) := by unfold tickO; rw [if_neg (by rw [ht]; simp), if_neg hw, if_neg hlf]
       rw [e1, e2]
       rw [ht] at htm
       have hc := come_ok B X { s with wt := s.wt - 1 } v ps ⟨0, 0, none, 0, 0, []⟩ 5 _ hT2 h2 hb2 (pv_none _ _ _ _ _) hn hev.2
       clear h h2 hb hb2 e1 e2 ht hev hst hT2
       go_enter Tryz.func147, Tryz.ntmps147
       go_wp2_with (fail)
       refine htm.mono ?_
       rintro e w3 ⟨rfl, rfl⟩
       go_wp2_with (fail)
       refine hc.mono ?_
       rintro e w4 ⟨rfl, hW⟩
       clear hc
       go_wp2_with (fail)
       first | go_end0 | refine bodyPost_ret (results_none rfl _ _ _) rfl ?_
       exact ⟨rfl, hW.from hk2⟩
end Go.Proofs.YtieklnlbljejdaaGreatDoor

namespace Go.Proofs.YtieklnlbljejdaaGreatDoor
open Go.RowKit
def evP (s : LS) (ev : Int) (ans : APkt) : LS × List APkt × Nat := if (stepI s.st ev).2.2 = 0 then (comeS s ev, comeO s ev ans, 0) else (s, [], (stepI s.st ev).2.2)
theorem evP_ok {s : LS} {ev : Int} (ans : APkt) (h : (stepI s.st ev).2.2 = 0) : evP s ev ans = (comeS s ev, comeO s ev ans, 0) := by unfold evP; rw [if_pos h]
theorem evP_no {s : LS} {ev : Int} (ans : APkt) (h : (stepI s.st ev).2.2 ≠ 0) : evP s ev ans = (s, [], (stepI s.st ev).2.2) := by unfold evP; rw [if_neg h]
theorem come_all (B : Nat) (X : Nat → Prop) (s : LS) (v : Value) (ps : List PV) (p : PV) (ev : Int) (w : World) (hT : TabOk w) (h : Rep w B X s v ps) (hb : Bd s 100) (hp : PvOk w X v p) (hn : ps.length ≤ 50) :
 Calls Tryz.prog 171 #[.pointer (some ⟨B, 0, none⟩), .int .i64 ev, .agg #[.int .i64 p.code, .int .i64 p.id, .slice p.a p.n p.cap]] w fun e w' => e = .returned (errV (evP s ev p.abs).2.2) ∧ Went w w' B X (evP s ev p.abs).1 v ps (evP s ev p.abs).2.1 := by
 by_cases hf : (stepI s.st ev).2.2 = 0
 · rw [evP_ok _ hf]
   exact come_ok B X s v ps p ev w hT h hb hp hn hf
 · rw [evP_no _ hf]
   obtain ⟨D, nx, f, hR⟩ : ∃ D nx f, stepI s.st ev = (D, nx, f) := ⟨_, _, _, rfl⟩
   rw [hR] at hf ⊢
   refine (come_no B X s v ps p ev D nx f w hT h hR hf).mono ?_
   rintro e w' ⟨rfl, hb⟩
   exact ⟨by simp only [errV]; rw [if_neg hf], Went.still (h.below hb) (Kept.of_below B _ hb)⟩
theorem judgeR_two {mg : Int} {os : List Opt} (h : (judgeR mg os).1 = 2) : judgeR mg os = (2, os) := by
 unfold judgeR at *
 split
 · rename_i h1; rw [if_pos h1] at h; simp at h
 · rename_i h1
   rw [if_neg h1] at h
   split
   · rename_i h2; rw [if_pos h2] at h; simp at h
   · rfl
def reqP (s : LS) (id : Int) (os : List Opt) : LS × List APkt × Nat :=
 if (judgeR s.nm os).1 = 2 then (if (evP s 6 (2, id, os)).2.2 = 0 then ((evP s 6 (2, id, os)).1.sized os, (evP s 6 (2, id, os)).2.1, 0) else evP s 6 (2, id, os)) else evP s 7 ((judgeR s.nm os).1, id, (judgeR s.nm os).2)
theorem betL_few (mg : Int) : ∀ os : List Opt, (betL mg os).length ≤ os.length
 | [] => by simp [betL]
 | o :: r => by
   have ih := betL_few mg r
   have e : betL mg (o :: r) = bet1 mg o ++ betL mg r := by simp [betL]
   have h1 : (bet1 mg o).length ≤ 1 := by
    unfold bet1
    split
    · simp
    · split <;> simp
   rw [e, List.length_append, List.length_cons]
   omega
theorem judgeR_few (mg : Int) (os : List Opt) : (judgeR mg os).2.length ≤ os.length := by
 unfold judgeR
 split
 · exact List.length_filter_le _ _
 · split
   · exact betL_few mg os
   · exact Nat.le_refl _
set_option maxRecDepth 100000 in
set_option maxHeartbeats 8000000 in
theorem request_no (B : Nat) (X : Nat → Prop) (s : LS) (v : Value) (ps : List PV) (id : Int) (a : Option Addr) (n cap : Nat) (os : List Opt) (w : World) (hT : TabOk w) (h : Rep w B X s v ps) (hb : Bd s 100) (hn : ps.length ≤ 50)
 (ho : OptR w a n os) (hnil : NilOk a cap) (hnn : n ≤ 1000) (m1 : 0 ≤ s.nm) (m2 : s.nm ≤ 255) (cj : Int) (lj : List Opt) (hj : judgeR s.nm os = (cj, lj)) (ev : Int) (hev : cj = 2 ∧ ev = 6 ∧ (stepI s.st 6).2.2 ≠ 0 ∨ cj ≠ 2 ∧ ev = 7) :
 Calls Tryz.prog 211 #[.pointer (some ⟨B, 0, none⟩), .agg #[.int .i64 1, .int .i64 id, .slice a n cap]] w fun e w' => e = .returned (errV (evP s ev (cj, id, lj)).2.2) ∧ Went w w' B X (evP s ev (cj, id, lj)).1 v ps (evP s ev (cj, id, lj)).2.1 := by
 have hk := below_alloc w (.cells #[.int .i64 1, .int .i64 id, .slice a n cap] 37)
 have hA := fun j => World.cell?_alloc_mark w #[.int .i64 1, .int .i64 id, .slice a n cap] 37 (0, 0) j
 have hl := h.lk.lt
 have hvl := h.row.lt
 have h1 := h.below hk
 have hz : ∀ w : World, (zeroValue 37).run Tryz.prog w = .ok (.agg #[.int .i64 0, .int .i64 0, .slice none 0 0]) w := fun w => by kernel_rfl
 have hol := ho.1
 obtain ⟨W1, hW1⟩ : ∃ W1, w.alloc (.cells #[.int .i64 1, .int .i64 id, .slice a n cap] 37) = W1 := ⟨_, rfl⟩
 obtain ⟨Z, hZ⟩ : ∃ Z, w.heap.size = Z := ⟨_, rfl⟩
 have d1 : W1.cell? ⟨Z, 1, none⟩ = some (.int .i64 id) := by rw [← hW1, ← hZ]; exact hA 1
 have d2 : W1.cell? ⟨Z, 2, none⟩ = some (.slice a n cap) := by rw [← hW1, ← hZ]; exact hA 2
 rw [hW1] at h1 hk
 have HW : Hid (w.alloc (.cells #[.int .i64 1, .int .i64 id, .slice a n cap] 37) = W1) := hW1
 have HZ : Hid (w.heap.size = Z) := hZ
 clear hA hW1 hZ hl
 have c2 : W1.cell? ⟨B, 2, none⟩ = some (.int .i64 s.ns) := h1.lk.cell 2
 have c3 : W1.cell? ⟨B, 3, none⟩ = some (.int .i64 s.nm) := h1.lk.cell 3
 have hlB := h1.lk.lt
 have hlZ : Z < W1.heap.size := World.block_lt_of_cell? W1 _ d1
 have hxl := h1.old
 have hself := h1.self
 have hJ := judge_any s.ns s.nm a n cap os W1.drew m1 m2 (by omega) hnil (ho.below (below_drew hk))
 have hfew := judgeR_few s.nm os
 rw [hj] at hJ hfew
 simp only at hJ hfew
 have hlj : lj.length ≤ 1000 := by omega
 clear hfew hj
 obtain ⟨E, hE⟩ : ∃ E, errV (evP s ev (cj, id, lj)).2.2 = E := ⟨_, rfl⟩
 obtain ⟨S', hS'⟩ : ∃ S', (evP s ev (cj, id, lj)).1 = S' := ⟨_, rfl⟩
 obtain ⟨O', hO'⟩ : ∃ O', (evP s ev (cj, id, lj)).2.1 = O' := ⟨_, rfl⟩
 rw [hE, hS', hO']
 have hev2 : cj = 2 ∧ ev = 6 ∧ (∃ f : Nat, E = .iface 128 (.int .i64 (f : Int))) ∨ cj ≠ 2 ∧ ev = 7 := by
  rcases hev with ⟨rfl, rfl, hf⟩ | h7
  · refine .inl ⟨rfl, rfl, (stepI s.st 6).2.2, ?_⟩
    rw [← hE, evP_no _ hf]
    simp only [errV]
    rw [if_neg hf]
  · exact .inr h7
 have HE : Hid _ := And.intro hE (And.intro hS' hO')
 clear hev hE hS' hO'
 go_enter Tryz.func211, Tryz.ntmps211
 go_wp2_with (fail)
 rw [HW.out, HZ.out]
 go_region_with (go_at_call 228; refine hJ.mono ?_; rintro e w2 ⟨u, rfl, hM⟩)
 all_goals
  obtain ⟨a', n', cap', rfl, hP⟩ := pv_made (X := X) (v := v) cj id hM hlj hxl (fun k hk3 => Nat.lt_of_lt_of_le (hvl k hk3) hk.size)
  have k12 : Below W1.heap.size W1 w2 := below_chain (below_drew (Below.refl _ _)) hM.below
  have R2 := h1.below k12
  have d1' : w2.cell? ⟨Z, 1, none⟩ = some (.int .i64 id) := (k12.cell (p := ⟨Z, 1, none⟩) hlZ).trans d1
  have hlZ2 : Z < w2.heap.size := World.block_lt_of_cell? w2 _ d1'
  have k23 := below_alloc w2 (.cells #[.int .i64 cj, .int .i64 id, .slice a' n' cap'] 37)
  have k03 := below_chain hk (below_chain k12 k23)
  have R3 := R2.below k23
  have P3 := hP.kept hself (Kept.of_below B v.ownBlock k23) (fun _ e => .inl e)
  have HC := come_all B X s v ps ⟨cj, id, a', n', cap', lj⟩ ev _ (hT.below k03) R3 hb P3 hn
  have hab : PV.abs ⟨cj, id, a', n', cap', lj⟩ = (cj, id, lj) := rfl
  rw [hab, HE.out.1, HE.out.2.1, HE.out.2.2] at HC
  clear hab HE
  clear hM hP R2 k12 c2 c3 d1 d2 h1 hJ R3 P3
  rcases hev2 with ⟨rfl, rfl, f, rfl⟩ | ⟨hc, rfl⟩
  · go_wp2_with (fail)
    refine HC.mono ?_
    rintro e w4 ⟨rfl, hW⟩
    clear HC
    go_wp2_with (fail)
    go_ret
    exact ⟨rfl, hW.from (Kept.of_below B v.ownBlock k03)⟩
  · have hcb : (cj != 2) = true := by simpa using hc
    clear hc
    go_wp2_with (fail)
    refine HC.mono ?_
    rintro e w4 ⟨rfl, hW⟩
    clear HC
    go_wp2_with (fail)
    go_ret
    exact ⟨rfl, hW.from (Kept.of_below B v.ownBlock k03)⟩
theorem request_all (B : Nat) (X : Nat → Prop) (s : LS) (v : Value) (ps : List PV) (id : Int) (a : Option Addr) (n cap : Nat) (os : List Opt) (w : World) (hT : TabOk w) (h : Rep w B X s v ps) (hb : Bd s 100) (hn : ps.length ≤ 50)
 (ho : OptR w a n os) (hfar : ∀ k, optOwn a n = some k → ¬ X k ∧ v.ownBlock ≠ some k ∧ k < w.heap.size) (hnil : NilOk a cap) (hnn : n ≤ 1000) (m1 : 0 ≤ s.nm) (m2 : s.nm ≤ 255) :
 Calls Tryz.prog 211 #[.pointer (some ⟨B, 0, none⟩), .agg #[.int .i64 1, .int .i64 id, .slice a n cap]] w fun e w' => e = .returned (errV (reqP s id os).2.2) ∧ Went w w' B X (reqP s id os).1 v ps (reqP s id os).2.1 := by
 by_cases hj : (judgeR s.nm os).1 = 2
 · have hj2 := judgeR_two hj
   by_cases hf : (stepI s.st 6).2.2 = 0
   · have e : reqP s id os = ((comeS s 6).sized os, comeO s 6 (2, id, os), 0) := by
      unfold reqP
      rw [if_pos hj, evP_ok _ hf, if_pos rfl]
     rw [e]
     exact request_ack B X s v ps id a n cap os w hT h hb hn ho hfar hnil hnn m1 m2 hj2 hf
   · have e : reqP s id os = evP s 6 (2, id, os) := by
      unfold reqP
      rw [if_pos hj, evP_no _ hf, if_neg hf]
     rw [e]
     exact request_no B X s v ps id a n cap os w hT h hb hn ho hnil hnn m1 m2 2 os hj2 6 (.inl ⟨rfl, rfl, hf⟩)
 · have e : reqP s id os = evP s 7 ((judgeR s.nm os).1, id, (judgeR s.nm os).2) := by
    unfold reqP
    rw [if_neg hj]
   rw [e]
   exact request_no B X s v ps id a n cap os w hT h hb hn ho hnil hnn m1 m2 _ _ rfl 7 (.inr ⟨hj, rfl⟩)
end Go.Proofs.YtieklnlbljejdaaGreatDoor

namespace Go.Proofs.YtieklnlbljejdaaGreatDoor
open Go.RowKit
section
variable {P : Program}
end
section
variable {P : Program} {md : Region.Mode} {ops : Array Oper} {Q : Exit → Act → World → Prop} {S : World → Prop}
theorem rt_yes (i : Nat) (d : Option Tmp) {oi : Oper} {v : Value} {fuel : Nat} {listed : Array Bool} {a : Act} {w : World} (hi : ops[i]? = some oi) (hd : oi.dst = d)
 (hs : Region.noSelect ops = true) (hf : Region.free md ops listed i = true) (hr : (Region.ready md ops listed).contains i = true)
 (hQ : ∀ c a w, Q (.panic c) (a.put d v) w → Q (.panic c) a w) (hw : Region.wanted oi (yielded ops a.tmps) = true) (hy : ∀ w, S w → (execOp a.eval oi).run P w = .ok (.value v) w) (hS : S w)
 (h : wpAnyH P md ops Q S fuel (listed.setIfInBounds i true) (a.put d v) w) : wpAnyH P md ops Q S (fuel + 1) listed a w := by
 subst hd
 exact wpAnyH_take hi hs hf hr hQ (Or.inl ⟨hw, hy⟩) hS h
end
theorem blk_far2 {w x : World} {o : Obj} {B : Nat} {C : Array Value} {t : TypeId} {v : Value} (h : Blk w B C t) (hg : (w.alloc o).drew.grownBy x v.ownBlock) (hv : v.ownBlock ≠ some B) : Blk x B C t := by
 refine h.keep ?_
 rw [hg.block B (by show B < (w.alloc o).heap.size; have := h.lt; simp; omega) (fun e => hv e.symm)]
 exact Below.heap_alloc w o B h.lt
end Go.Proofs.YtieklnlbljejdaaGreatDoor

namespace Go.Proofs.YtieklnlbljejdaaGreatDoor
open Go.RowKit
set_option maxRecDepth 100000 in
theorem oact_skip (B : Nat) (l code id : Int) (a : Option Addr) (n cap : Nat) (w : World) (h1 : (l == 105) = false) (h2 : (l == 122) = false) (h3 : (l == 114) = false) (h4 : (l == 116) = false) (h5 : (l == 97) = false) (h6 : (l == 110) = false) (h7 : (l == 107) = false) :
 Calls Tryz.prog 208 #[.pointer (some ⟨B, 0, none⟩), .int .u8 l, .agg #[.int .i64 code, .int .i64 id, .slice a n cap]] w fun e w' => e = .returned (.tuple #[]) ∧ Below w.heap.size w w' := by
 have hb := below_alloc w (.cells #[.int .i64 code, .int .i64 id, .slice a n cap] 37)
 go_enter Tryz.func208, Tryz.ntmps208
 go_wp2_with (fail)
 first | go_end0 | refine bodyPost_ret (results_none rfl _ _ _) rfl ?_
 exact ⟨rfl, hb⟩
set_option maxRecDepth 100000 in
set_option maxHeartbeats 4000000 in
theorem ocome_open (B : Nat) (fs fm ns nm qs qm sz lf wt ow code id : Int) (v : Value) (a : Option Addr) (n cap : Nat) (w : World) (hT : TabOk w) (h : Lk w B (lkC fs fm ns nm qs qm 0 sz lf wt ow v)) :
 Calls Tryz.prog 171 #[.pointer (some ⟨B, 0, none⟩), .int .i64 2, .agg #[.int .i64 code, .int .i64 id, .slice a n cap]] w fun e w' => e = .returned .nilIface ∧ Lk w' B (lkC fs fm fs fm qs qm 1 255 lf wt ow v) ∧ w.grownBy w' (some B) := by
 have hk := below_alloc w (.cells #[.int .i64 code, .int .i64 id, .slice a n cap] 37)
 have hA := fun j => World.cell?_alloc_mark w #[.int .i64 code, .int .i64 id, .slice a n cap] 37 (0, 0) j
 have h0 := h.below hk
 have hT0 := hT.below hk
 have hst := step_as 0 2 [115] 1 0 (by decide +kernel) _ hT0
 have e0 : errV 0 = .nilIface := rfl
 rw [e0] at hst
 have hl := h.lt
 have c6 : w.cell? ⟨B, 6, none⟩ = some (.int .i64 0) := h.cell 6
 go_enter Tryz.func171, Tryz.ntmps171
 go_wp2_with (fail)
 refine hst.mono ?_
 rintro e w1 ⟨rfl, m1, rfl⟩
 obtain ⟨W1, hW1⟩ : ∃ W1, (w.alloc (.cells #[.int .i64 code, .int .i64 id, .slice a n cap] 37)).drewN m1 = W1 := ⟨_, rfl⟩
 obtain ⟨Z, hZ⟩ : ∃ Z, w.heap.size = Z := ⟨_, rfl⟩
 have d0 : W1.cell? ⟨Z, 0, none⟩ = some (.int .i64 code) := by rw [← hW1, ← hZ]; exact hA 0
 have d1 : W1.cell? ⟨Z, 1, none⟩ = some (.int .i64 id) := by rw [← hW1, ← hZ]; exact hA 1
 have d2 : W1.cell? ⟨Z, 2, none⟩ = some (.slice a n cap) := by rw [← hW1, ← hZ]; exact hA 2
 have h1 : Lk W1 B (lkC fs fm ns nm qs qm 0 sz lf wt ow v) := by rw [← hW1]; exact h0
 have hg1 : w.grownBy W1 (some B) := by rw [← hW1]; exact grown_of_below B (below_drewN hk m1)
 rw [hW1, hZ]
 have hBZ : B ≠ Z := by omega
 clear hst hW1 hZ hA h0 hT0 hk h c6 hl e0 hT
 have hlB := h1.lt
 have c0 : W1.cell? ⟨B, 0, none⟩ = some (.int .i64 fs) := h1.cell 0
 have c1 : W1.cell? ⟨B, 1, none⟩ = some (.int .i64 fm) := h1.cell 1
 have c2 : W1.cell? ⟨B, 2, none⟩ = some (.int .i64 ns) := h1.cell 2
 have c3 : W1.cell? ⟨B, 3, none⟩ = some (.int .i64 nm) := h1.cell 3
 have c6 : W1.cell? ⟨B, 6, none⟩ = some (.int .i64 0) := h1.cell 6
 have c7 : W1.cell? ⟨B, 7, none⟩ = some (.int .i64 sz) := h1.cell 7
 have fz : ∀ j, W1.frozen? ⟨B, j, none⟩ = false := h1.frozen
 have H2 : Hid (Lk ((((W1.setCell ⟨B, 6, none⟩ (.int .i64 1)).setCell ⟨B, 2, none⟩ (.int .i64 fs)).setCell ⟨B, 3, none⟩ (.int .i64 fm)).setCell ⟨B, 7, none⟩ (.int .i64 255)) B (lkC fs fm fs fm qs qm 1 255 lf wt ow v)) := ((((h1.set 6 _).set 2 _).set 3 _).set 7 _)
 have G2 : Hid (w.grownBy ((((W1.setCell ⟨B, 6, none⟩ (.int .i64 1)).setCell ⟨B, 2, none⟩ (.int .i64 fs)).setCell ⟨B, 3, none⟩ (.int .i64 fm)).setCell ⟨B, 7, none⟩ (.int .i64 255)) (some B)) := (grownBy_setCell (grownBy_setCell (grownBy_setCell (grownBy_setCell hg1 6 _) 2 _) 3 _) 7 _)
 have D0 : Hid (((((W1.setCell ⟨B, 6, none⟩ (.int .i64 1)).setCell ⟨B, 2, none⟩ (.int .i64 fs)).setCell ⟨B, 3, none⟩ (.int .i64 fm)).setCell ⟨B, 7, none⟩ (.int .i64 255)).cell? ⟨Z, 0, none⟩ = some (.int .i64 code)) := by show _ = _; rw [World.cell?_setCell_far _ _ _ _ hBZ, World.cell?_setCell_far _ _ _ _ hBZ, World.cell?_setCell_far _ _ _ _ hBZ, World.cell?_setCell_far _ _ _ _ hBZ]; exact d0
 have D1 : Hid (((((W1.setCell ⟨B, 6, none⟩ (.int .i64 1)).setCell ⟨B, 2, none⟩ (.int .i64 fs)).setCell ⟨B, 3, none⟩ (.int .i64 fm)).setCell ⟨B, 7, none⟩ (.int .i64 255)).cell? ⟨Z, 1, none⟩ = some (.int .i64 id)) := by show _ = _; rw [World.cell?_setCell_far _ _ _ _ hBZ, World.cell?_setCell_far _ _ _ _ hBZ, World.cell?_setCell_far _ _ _ _ hBZ, World.cell?_setCell_far _ _ _ _ hBZ]; exact d1
 have D2 : Hid (((((W1.setCell ⟨B, 6, none⟩ (.int .i64 1)).setCell ⟨B, 2, none⟩ (.int .i64 fs)).setCell ⟨B, 3, none⟩ (.int .i64 fm)).setCell ⟨B, 7, none⟩ (.int .i64 255)).cell? ⟨Z, 2, none⟩ = some (.slice a n cap)) := by show _ = _; rw [World.cell?_setCell_far _ _ _ _ hBZ, World.cell?_setCell_far _ _ _ _ hBZ, World.cell?_setCell_far _ _ _ _ hBZ, World.cell?_setCell_far _ _ _ _ hBZ]; exact d2
 go_wp2_with (fail)
 obtain ⟨W2, hW2⟩ : ∃ W2, (((W1.setCell ⟨B, 6, none⟩ (.int .i64 1)).setCell ⟨B, 2, none⟩ (.int .i64 fs)).setCell ⟨B, 3, none⟩ (.int .i64 fm)).setCell ⟨B, 7, none⟩ (.int .i64 255) = W2 := ⟨_, rfl⟩
 have h2 : Lk W2 B (lkC fs fm fs fm qs qm 1 255 lf wt ow v) := by rw [← hW2]; exact H2.out
 have hg2 : w.grownBy W2 (some B) := by rw [← hW2]; exact G2.out
 have d0 : W2.cell? ⟨Z, 0, none⟩ = some (.int .i64 code) := by rw [← hW2]; exact D0.out
 have d1 : W2.cell? ⟨Z, 1, none⟩ = some (.int .i64 id) := by rw [← hW2]; exact D1.out
 have d2 : W2.cell? ⟨Z, 2, none⟩ = some (.slice a n cap) := by rw [← hW2]; exact D2.out
 rw [hW2]
 clear H2 G2 D0 D1 D2 hW2 fz hlB c6 h1 hg1 c0 c1 c2 c3 c7
 have hlZ : Z < W2.heap.size := World.block_lt_of_cell? W2 _ d0
 refine wp_loop_rounds 2 ?_
 rw [rounds_succ]
 go_wp2_with (fail)
 go_region_with (go_at_call 208; refine (oact_skip B 115 code id a n cap _ (by decide) (by decide) (by decide) (by decide) (by decide) (by decide) (by decide)).mono ?_; rintro e V0 ⟨rfl, k0⟩)
 all_goals
  have L0 := (h2.drew).below k0
  have g0 := grown_trans hg2 (grown_trans (grown_of_below B (below_drew (Below.refl _ _))) (grown_of_below B k0))
  go_wp2_with (fail)
  rw [rounds_succ]
  go_wp2_with (fail)
  go_ret
  exact ⟨rfl, L0, g0⟩
set_option maxRecDepth 100000 in
set_option maxHeartbeats 2000000 in
theorem odo_open (B : Nat) (fs fm ns nm qs qm sz lf wt ow : Int) (v : Value) (w : World) (hT : TabOk w) (h : Lk w B (lkC fs fm ns nm qs qm 0 sz lf wt ow v)) :
 Calls Tryz.prog 120 #[.pointer (some ⟨B, 0, none⟩), .int .i64 2] w fun e w' => e = .returned .nilIface ∧ Lk w' B (lkC fs fm fs fm qs qm 1 255 lf wt ow v) ∧ w.grownBy w' (some B) := by
 have hz := zeroPacket
 have hc := ocome_open B fs fm ns nm qs qm sz lf wt ow 0 0 v none 0 0 w hT h
 clear h hT
 go_enter Tryz.func120, Tryz.ntmps120
 go_wp2_with (fail)
 refine hc.mono ?_
 rintro e w1 ⟨rfl, hL, hg⟩
 go_wp2_with (fail)
 go_ret
 exact ⟨rfl, hL, hg⟩
end Go.Proofs.YtieklnlbljejdaaGreatDoor
