/-
  One end of a link: Do, State, Size, Tick, where the event comes; an end that is new.
-/
import Derived.Test.YtgfjgenkpfdofaaDoorLinkGive
namespace Go.Proofs.YtgfjgenkpfdofaaDoor
open Go.RowKit

theorem zeroPacket (w : World) : (zeroValue 36).run Tryd.prog w = .ok (.agg #[.int .i64 0, .int .i64 0, .slice none 0 0]) w := by kernel_rfl

set_option maxRecDepth 100000 in
set_option maxHeartbeats 2000000 in
theorem do_rep (ev : Int) (hev : ev = 0 ∨ ev = 1 ∨ ev = 2 ∨ ev = 3) (B : Nat) (X : Nat → Prop) (s : LS) (v : Value) (ps : List PV) (w : World) (hT : TabOk w) (h : Rep w B X s v ps) (hb : Bd s 100) (hn : ps.length ≤ 50) (hf : (stepI s.st ev).2.2 = 0) :
    Calls Tryd.prog 9 #[.pointer (some ⟨B, 0, none⟩), .int .i64 ev] w fun e w' => e = .returned .nilIface ∧ Went w w' B X (comeS s ev) v ps (comeO s ev (0, 0, [])) := by
  have hz := zeroPacket
  have hc := come_ok B X s v ps ⟨0, 0, none, 0, 0, []⟩ ev w hT h hb (pv_none _ _ _ _ _) hn hf
  clear h hT hb hf
  rcases hev with rfl | rfl | rfl | rfl
  all_goals
    go_enter Tryd.func9, Tryd.ntmps9
    go_wp2_with (fail)
    refine hc.mono ?_
    rintro e w1 ⟨rfl, hW⟩
    clear hc
    go_wp2_with (fail)
    go_ret
    exact ⟨rfl, hW⟩
set_option maxRecDepth 100000 in
theorem state_rep (B : Nat) (X : Nat → Prop) (s : LS) (v : Value) (ps : List PV) (w : World) (h : Rep w B X s v ps) :
    Calls Tryd.prog 15 #[.pointer (some ⟨B, 0, none⟩)] w fun e w' => e = .returned (.int .i64 s.st) ∧ w = w' := by
  have hl := h.lk.lt
  have c6 : w.cell? ⟨B, 6, none⟩ = some (.int .i64 s.st) := h.lk.cell 6
  clear h
  go_enter Tryd.func15, Tryd.ntmps15
  go_wp2_with (fail)
  go_ret
  exact ⟨rfl, rfl⟩
set_option maxRecDepth 100000 in
theorem size_rep (B : Nat) (X : Nat → Prop) (s : LS) (v : Value) (ps : List PV) (w : World) (h : Rep w B X s v ps) :
    Calls Tryd.prog 16 #[.pointer (some ⟨B, 0, none⟩)] w fun e w' => e = .returned (.int .i64 s.sz) ∧ w = w' := by
  have hl := h.lk.lt
  have c7 : w.cell? ⟨B, 7, none⟩ = some (.int .i64 s.sz) := h.lk.cell 7
  clear h
  go_enter Tryd.func16, Tryd.ntmps16
  go_wp2_with (fail)
  go_ret
  exact ⟨rfl, rfl⟩

/-- What a tick does to an end; what it says. -/
def tickS (s : LS) : LS := if (decide (4 ≤ s.st) && decide (s.st ≤ 8)) = false then s else if 0 < s.wt - 1 then { s with wt := s.wt - 1 } else if 0 < s.lf then comeS { s with wt := s.wt - 1 } 4 else comeS { s with wt := s.wt - 1 } 5
def tickO (s : LS) : List APkt := if (decide (4 ≤ s.st) && decide (s.st ≤ 8)) = false then [] else if 0 < s.wt - 1 then [] else if 0 < s.lf then comeO { s with wt := s.wt - 1 } 4 (0, 0, []) else comeO { s with wt := s.wt - 1 } 5 (0, 0, [])
theorem timed_comes : ∀ s : Nat, 4 ≤ s → s ≤ 8 → (stepR s 4).2.2 = 0 ∧ (stepR s 5).2.2 = 0 := by
  intro s h1 h2
  exact (show ∀ s, s < 9 → 4 ≤ s → (stepR s 4).2.2 = 0 ∧ (stepR s 5).2.2 = 0 by decide +kernel) s (by omega) h1

set_option maxRecDepth 100000 in
set_option maxHeartbeats 4000000 in
theorem tick_rep (B : Nat) (X : Nat → Prop) (s : LS) (v : Value) (ps : List PV) (w : World) (hT : TabOk w) (hB : B ≠ 0) (hv0 : v.ownBlock ≠ some 0) (h : Rep w B X s v ps) (hb : Bd s 100) (hn : ps.length ≤ 50) (w1 : -1000 ≤ s.wt) (w2 : s.wt ≤ 1000) :
    Calls Tryd.prog 11 #[.pointer (some ⟨B, 0, none⟩)] w fun e w' => e = .returned (.tuple #[]) ∧ Went w w' B X (tickS s) v ps (tickO s) := by
  have hz := zeroPacket
  have hl := h.lk.lt
  have c6 : w.cell? ⟨B, 6, none⟩ = some (.int .i64 s.st) := h.lk.cell 6
  have c8 : w.cell? ⟨B, 8, none⟩ = some (.int .i64 s.lf) := h.lk.cell 8
  have c9 : w.cell? ⟨B, 9, none⟩ = some (.int .i64 s.wt) := h.lk.cell 9
  have fz : ∀ j, w.frozen? ⟨B, j, none⟩ = false := h.lk.frozen
  have htm := timed_any s.st w
  cases ht : (decide (4 ≤ s.st) && decide (s.st ≤ 8))
  · have e1 : tickS s = s := by unfold tickS; rw [if_pos ht]
    have e2 : tickO s = [] := by unfold tickO; rw [if_pos ht]
    rw [e1, e2]
    rw [ht] at htm
    have HW : Hid (Went w w B X s v ps []) := Went.still h (Kept.refl _ _ _)
    clear h hb e1 e2 ht
    go_enter Tryd.func11, Tryd.ntmps11
    go_wp2_with (fail)
    refine htm.mono ?_
    rintro e w3 ⟨rfl, rfl⟩
    go_wp2_with (fail)
    first | go_end0 | refine bodyPost_ret (results_none rfl _ _ _) rfl ?_
    exact ⟨rfl, HW.out⟩
  · have h2 : Rep (w.setCell ⟨B, 9, none⟩ (.int .i64 (s.wt - 1))) B X { s with wt := s.wt - 1 } v ps := h.setC 9 _ _ rfl
    have hk2 : Kept w (w.setCell ⟨B, 9, none⟩ (.int .i64 (s.wt - 1))) B v.ownBlock := kept_set (Kept.refl _ _ _) 9 _
    have hT2 := hk2.tab hT hB hv0
    have hb2 : Bd { s with wt := s.wt - 1 } 100 := ⟨hb.o1, hb.o2, hb.l1, hb.l2⟩
    have hst : 4 ≤ s.st ∧ s.st ≤ 8 := by simpa using ht
    have hev : (stepI s.st 4).2.2 = 0 ∧ (stepI s.st 5).2.2 = 0 := by
      obtain ⟨st', hst'⟩ : ∃ st' : Nat, s.st = st' := ⟨s.st.toNat, by omega⟩
      rw [hst']
      have := timed_comes st' (by omega) (by omega)
      rw [show (4 : Int) = ((4 : Nat) : Int) from rfl, show (5 : Int) = ((5 : Nat) : Int) from rfl, stepI_in st' 4 (by omega) (by decide), stepI_in st' 5 (by omega) (by decide)]
      exact this
    by_cases hw : 0 < s.wt - 1
    · have e1 : tickS s = { s with wt := s.wt - 1 } := by unfold tickS; rw [if_neg (by rw [ht]; simp), if_pos hw]
      have e2 : tickO s = [] := by unfold tickO; rw [if_neg (by rw [ht]; simp), if_pos hw]
      rw [e1, e2]
      rw [ht] at htm
      have HW : Hid (Went w _ B X _ v ps []) := Went.still h2 hk2
      clear h h2 hb hb2 e1 e2 ht hev hst hT2 hk2
      go_enter Tryd.func11, Tryd.ntmps11
      go_wp2_with (fail)
      refine htm.mono ?_
      rintro e w3 ⟨rfl, rfl⟩
      go_wp2_with (fail)
      first | go_end0 | refine bodyPost_ret (results_none rfl _ _ _) rfl ?_
      exact ⟨rfl, HW.out⟩
    · by_cases hlf : 0 < s.lf
      · have e1 : tickS s = comeS { s with wt := s.wt - 1 } 4 := by unfold tickS; rw [if_neg (by rw [ht]; simp), if_neg hw, if_pos hlf]
        have e2 : tickO s = comeO { s with wt := s.wt - 1 } 4 (0, 0, []) := by unfold tickO; rw [if_neg (by rw [ht]; simp), if_neg hw, if_pos hlf]
        rw [e1, e2]
        rw [ht] at htm
        have hc := come_ok B X { s with wt := s.wt - 1 } v ps ⟨0, 0, none, 0, 0, []⟩ 4 _ hT2 h2 hb2 (pv_none _ _ _ _ _) hn hev.1
        clear h h2 hb hb2 e1 e2 ht hev hst hT2
        go_enter Tryd.func11, Tryd.ntmps11
        go_wp2_with (fail)
        refine htm.mono ?_
        rintro e w3 ⟨rfl, rfl⟩
        go_wp2_with (fail)
        refine hc.mono ?_
        rintro e w4 ⟨rfl, hW⟩
        clear hc
        go_wp2_with (fail)
        first | go_end0 | refine bodyPost_ret (results_none rfl _ _ _) rfl ?_
        exact ⟨rfl, hW.from hk2⟩
      · have e1 : tickS s = comeS { s with wt := s.wt - 1 } 5 := by unfold tickS; rw [if_neg (by rw [ht]; simp), if_neg hw, if_neg hlf]
        have e2 : tickO s = comeO { s with wt := s.wt - 1 } 5 (0, 0, []) := by unfold tickO; rw [if_neg (by rw [ht]; simp), if_neg hw, if_neg hlf]
        rw [e1, e2]
        rw [ht] at htm
        have hc := come_ok B X { s with wt := s.wt - 1 } v ps ⟨0, 0, none, 0, 0, []⟩ 5 _ hT2 h2 hb2 (pv_none _ _ _ _ _) hn hev.2
        clear h h2 hb hb2 e1 e2 ht hev hst hT2
        go_enter Tryd.func11, Tryd.ntmps11
        go_wp2_with (fail)
        refine htm.mono ?_
        rintro e w3 ⟨rfl, rfl⟩
        go_wp2_with (fail)
        refine hc.mono ?_
        rintro e w4 ⟨rfl, hW⟩
        clear hc
        go_wp2_with (fail)
        first | go_end0 | refine bodyPost_ret (results_none rfl _ _ _) rfl ?_
        exact ⟨rfl, hW.from hk2⟩
end Go.Proofs.YtgfjgenkpfdofaaDoor
