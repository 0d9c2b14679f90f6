/-
  The document's end of a link: an event, whether it comes or not; Do, Tick.
-/
import Derived.Test.YtgfjgenkpfdofaaDoorRLink2
import Derived.Test.YtgfjgenkpfdofaaDoorLinkAll2
namespace Go.Proofs.YtgfjgenkpfdofaaDoor
open Go.RowKit

theorem RWent.still {w w' : World} {B : Nat} {X : Nat → Prop} {s : LS} {ak : Value} (h : RRep w' B X s ak (.slice none 0 0) []) (hk : Kept w w' B none) : RWent w w' B X s [] :=
  ⟨⟨ak, .slice none 0 0, [], h, rfl, fun g hg => by simp [Value.ownBlock] at hg⟩, hk⟩
theorem RWent.from {w x w' : World} {B : Nat} {X : Nat → Prop} {s' : LS} {out : List APkt} (h : RWent x w' B X s' out) (hk : Kept w x B none) : RWent w w' B X s' out := by
  obtain ⟨⟨ak', v', qs, hR, ho, hv⟩, hK⟩ := h
  exact ⟨⟨ak', v', qs, hR, ho, fun g hg => Nat.le_trans hk.size (hv g hg)⟩, hk.trans hK (fun i e => .inl e)⟩
theorem revent_all (B : Nat) (X : Nat → Prop) (s : LS) (ak : Value) (st e : Nat) (c0 i0 c : Int) (a0 a : Option Addr) (n0 cap0 n cap : Nat) (os : List Opt) (w : World) (h : RRep w B X s ak (.slice none 0 0) []) (hb : Bd s 100) (hs : s.st = st) (hst : st < 10) (he : e < 12)
    (ho : OptR w a n os) (hnn : n ≤ 1000) (hfar : ∀ k, optOwn a n = some k → k ≠ B ∧ k < w.heap.size) :
    Calls Tryd.prog 22 #[.pointer (some ⟨B, 0, none⟩), .int .i64 e, .agg #[.int .i64 c0, .int .i64 i0, .slice a0 n0 cap0], .int .i64 c, .slice a n cap] w fun x w' => x = .returned (.int .i64 ((evP s e (c, i0, os)).2.2 : Int)) ∧ RWent w w' B X (evP s e (c, i0, os)).1 (evP s e (c, i0, os)).2.1 := by
  have hin : stepI s.st e = stepR st e := by rw [hs]; exact stepI_in st e hst he
  by_cases hf : (stepR st e).2.2 = 0
  · rw [evP_ok _ (by rw [hin]; exact hf)]
    have hlen := stepI_len s.st e
    unfold comeS comeO
    rw [hin] at hlen ⊢
    obtain ⟨D, nx, f, hR⟩ : ∃ D nx f, stepR st e = (D, nx, f) := ⟨_, _, _, rfl⟩
    rw [hR] at hf hlen ⊢
    simp only at hf hlen ⊢
    subst hf
    exact revent_yes B X s ak st e ⟨D.toArray⟩ nx c0 i0 c a0 a n0 cap0 n cap os w h hb hs hst he hR (by show D.toArray.size ≤ 4; simpa using hlen) ho hnn hfar
  · rw [evP_no _ (by rw [hin]; exact hf)]
    rw [hin]
    have h7 := (stepR_f e he st hst).resolve_left hf
    refine (revent_no B X s ak _ _ st e c0 i0 c a0 a n0 cap0 n cap w h hs hst he hf).mono ?_
    rintro x w' ⟨rfl, hb2⟩
    rw [h7]
    exact ⟨rfl, RWent.still (h.below hb2) (Kept.of_below B none hb2)⟩

set_option maxRecDepth 100000 in
set_option maxHeartbeats 2000000 in
theorem rdo_all (ev : Int) (B : Nat) (X : Nat → Prop) (s : LS) (ak : Value) (st : Nat) (w : World) (h : RRep w B X s ak (.slice none 0 0) []) (hb : Bd s 100) (hs : s.st = st) (hst : st < 10) :
    Calls Tryd.prog 10 #[.pointer (some ⟨B, 0, none⟩), .int .i64 ev] w fun e w' => e = .returned (.int .i64 ((doP s ev).2.2 : Int)) ∧ RWent w w' B X (doP s ev).1 (doP s ev).2.1 := by
  have hz := zeroPacket
  by_cases h0 : ev < 0
  · have e : doP s ev = (s, [], 1) := by unfold doP; rw [if_neg (by omega)]
    rw [e]
    have HW : Hid (RWent w w B X s []) := RWent.still h (Kept.refl _ _ _)
    clear h hb e
    go_enter Tryd.func10, Tryd.ntmps10
    go_wp2_with (fail)
    go_ret
    exact ⟨rfl, HW.out⟩
  by_cases h3 : 3 < ev
  · have e : doP s ev = (s, [], 1) := by unfold doP; rw [if_neg (by omega)]
    rw [e]
    have HW : Hid (RWent w w B X s []) := RWent.still h (Kept.refl _ _ _)
    clear h hb e
    go_enter Tryd.func10, Tryd.ntmps10
    go_wp2_with (fail)
    go_ret
    exact ⟨rfl, HW.out⟩
  · obtain ⟨e, rfl⟩ : ∃ e : Nat, ev = e := ⟨ev.toNat, by omega⟩
    have ed : doP s e = evP s e (0, 0, []) := by unfold doP; rw [if_pos (by omega)]
    rw [ed]
    have hc := revent_all B X s ak st e 0 0 0 none none 0 0 0 0 [] w h hb hs hst (by omega) (OptR.nil _ _) (by omega) (fun k hk => by simp [optOwn] at hk)
    clear h hb ed
    go_enter Tryd.func10, Tryd.ntmps10
    go_wp2_with (fail)
    refine hc.mono ?_
    rintro x w1 ⟨rfl, hW⟩
    clear hc
    go_wp2_with (fail)
    go_ret
    exact ⟨rfl, hW⟩

set_option maxRecDepth 100000 in
set_option maxHeartbeats 4000000 in
theorem rtick_all (B : Nat) (X : Nat → Prop) (s : LS) (ak : Value) (st : Nat) (w : World) (h : RRep w B X s ak (.slice none 0 0) []) (hb : Bd s 100) (hs : s.st = st) (hst : st < 10) (w1 : -1000 ≤ s.wt) (w2 : s.wt ≤ 1000) :
    Calls Tryd.prog 12 #[.pointer (some ⟨B, 0, none⟩)] w fun e w' => e = .returned (.tuple #[]) ∧ RWent w w' B X (tickS s) (tickO s) := by
  have hz := zeroPacket
  have hl := h.blk.lt
  have c0 : w.cell? ⟨B, 0, none⟩ = some (.int .i64 s.st) := h.blk.cell 0
  have c1 : w.cell? ⟨B, 1, none⟩ = some (.int .i64 s.lf) := h.blk.cell 1
  have c2 : w.cell? ⟨B, 2, none⟩ = some (.int .i64 s.wt) := h.blk.cell 2
  have fz : ∀ j, w.frozen? ⟨B, j, none⟩ = false := h.blk.frozen
  by_cases ht : 4 ≤ s.st ∧ s.st ≤ 8
  · have htb : ¬ (decide (4 ≤ s.st) && decide (s.st ≤ 8)) = false := by simp; omega
    have n1 : ¬ s.st < 4 := by omega
    have n2 : ¬ 8 < s.st := by omega
    have h2 : RRep (w.setCell ⟨B, 2, none⟩ (.int .i64 (s.wt - 1))) B X { s with wt := s.wt - 1 } ak (.slice none 0 0) [] := h.setC 2 _ _ rfl ⟨rfl, rfl⟩
    have hk2 : Kept w (w.setCell ⟨B, 2, none⟩ (.int .i64 (s.wt - 1))) B none := kept_set (Kept.refl _ _ _) 2 _
    have hb2 : Bd { s with wt := s.wt - 1 } 100 := ⟨hb.o1, hb.o2, hb.l1, hb.l2⟩
    have hev : (stepI s.st 4).2.2 = 0 ∧ (stepI s.st 5).2.2 = 0 := by
      rw [hs]
      have := timed_comes st (by omega) (by omega)
      rw [show (4 : Int) = ((4 : Nat) : Int) from rfl, show (5 : Int) = ((5 : Nat) : Int) from rfl, stepI_in st 4 (by omega) (by decide), stepI_in st 5 (by omega) (by decide)]
      exact this
    by_cases hw : 0 < s.wt - 1
    · have e1 : tickS s = { s with wt := s.wt - 1 } := by unfold tickS; rw [if_neg htb, if_pos hw]
      have e2 : tickO s = [] := by unfold tickO; rw [if_neg htb, if_pos hw]
      rw [e1, e2]
      have HW : Hid (RWent w _ B X _ []) := RWent.still h2 hk2
      clear h h2 hb hb2 e1 e2 htb hev hk2 hs ht
      go_enter Tryd.func12, Tryd.ntmps12
      go_wp2_with (fail)
      first | go_end0 | refine bodyPost_ret (results_none rfl _ _ _) rfl ?_
      exact ⟨rfl, HW.out⟩
    · by_cases hlf : 0 < s.lf
      · have e1 : tickS s = comeS { s with wt := s.wt - 1 } 4 := by unfold tickS; rw [if_neg htb, if_neg hw, if_pos hlf]
        have e2 : tickO s = comeO { s with wt := s.wt - 1 } 4 (0, 0, []) := by unfold tickO; rw [if_neg htb, if_neg hw, if_pos hlf]
        rw [e1, e2]
        have hc := revent_all B X { s with wt := s.wt - 1 } ak st 4 0 0 0 none none 0 0 0 0 [] _ h2 hb2 hs hst (by decide) (OptR.nil _ _) (by omega) (fun k hk => by simp [optOwn] at hk)
        rw [show ((4 : Nat) : Int) = 4 from rfl, evP_ok (s := { s with wt := s.wt - 1 }) _ hev.1] at hc
        clear h h2 hb hb2 e1 e2 htb hev hs ht
        go_enter Tryd.func12, Tryd.ntmps12
        go_wp2_with (fail)
        refine hc.mono ?_
        rintro e w4 ⟨rfl, hW⟩
        clear hc
        go_wp2_with (fail)
        first | go_end0 | refine bodyPost_ret (results_none rfl _ _ _) rfl ?_
        exact ⟨rfl, hW.from hk2⟩
      · have e1 : tickS s = comeS { s with wt := s.wt - 1 } 5 := by unfold tickS; rw [if_neg htb, if_neg hw, if_neg hlf]
        have e2 : tickO s = comeO { s with wt := s.wt - 1 } 5 (0, 0, []) := by unfold tickO; rw [if_neg htb, if_neg hw, if_neg hlf]
        rw [e1, e2]
        have hc := revent_all B X { s with wt := s.wt - 1 } ak st 5 0 0 0 none none 0 0 0 0 [] _ h2 hb2 hs hst (by decide) (OptR.nil _ _) (by omega) (fun k hk => by simp [optOwn] at hk)
        rw [show ((5 : Nat) : Int) = 5 from rfl, evP_ok (s := { s with wt := s.wt - 1 }) _ hev.2] at hc
        clear h h2 hb hb2 e1 e2 htb hev hs ht
        go_enter Tryd.func12, Tryd.ntmps12
        go_wp2_with (fail)
        refine hc.mono ?_
        rintro e w4 ⟨rfl, hW⟩
        clear hc
        go_wp2_with (fail)
        first | go_end0 | refine bodyPost_ret (results_none rfl _ _ _) rfl ?_
        exact ⟨rfl, hW.from hk2⟩
  · have htb : (decide (4 ≤ s.st) && decide (s.st ≤ 8)) = false := by simp; omega
    have e1 : tickS s = s := by unfold tickS; rw [if_pos htb]
    have e2 : tickO s = [] := by unfold tickO; rw [if_pos htb]
    rw [e1, e2]
    have HW : Hid (RWent w w B X s []) := RWent.still h (Kept.refl _ _ _)
    clear h hb e1 e2 htb
    by_cases n1 : s.st < 4
    · go_enter Tryd.func12, Tryd.ntmps12
      go_wp2_with (fail)
      first | go_end0 | refine bodyPost_ret (results_none rfl _ _ _) rfl ?_
      exact ⟨rfl, HW.out⟩
    · have n2 : 8 < s.st := by omega
      go_enter Tryd.func12, Tryd.ntmps12
      go_wp2_with (fail)
      first | go_end0 | refine bodyPost_ret (results_none rfl _ _ _) rfl ?_
      exact ⟨rfl, HW.out⟩
end Go.Proofs.YtgfjgenkpfdofaaDoor
