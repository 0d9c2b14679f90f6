/-
  One end of a link: act, at every letter.
-/
import Derived.Test.YtgfjgenkpfdofaaDoorLinkAct
namespace Go.Proofs.YtgfjgenkpfdofaaDoor
open Go.RowKit

theorem Went.from {w x w' : World} {B : Nat} {X : Nat → Prop} {s' : LS} {v : Value} {ps : List PV} {out : List APkt} (h : Went x w' B X s' v ps out) (hk : Kept w x B v.ownBlock) : Went w w' B X s' v ps out := by
  obtain ⟨⟨v', qs, hR, ho, hv⟩, hK⟩ := h
  refine ⟨⟨v', qs, hR, ho, fun g hg => ?_⟩, hk.trans hK (fun i e => .inl e)⟩
  rcases hv g hg with e | e
  · exact .inl e
  · exact .inr (Nat.le_trans hk.size e)
theorem Went.still {w w' : World} {B : Nat} {X : Nat → Prop} {s' : LS} {v : Value} {ps : List PV} (h : Rep w' B X s' v ps) (hk : Kept w w' B v.ownBlock) : Went w w' B X s' v ps [] :=
  ⟨⟨v, [], by rw [List.append_nil]; exact h, rfl, fun _ e => .inl e⟩, hk⟩
theorem pv_none (w : World) (X : Nat → Prop) (v : Value) (code id : Int) : PvOk w X v ⟨code, id, none, 0, 0, []⟩ :=
  ⟨OptR.nil w none, fun _ => rfl, Nat.le_refl _, Nat.zero_le _, fun k hk => by simp [optOwn] at hk⟩
theorem pv_made {w0 w : World} {X : Nat → Prop} {v u : Value} {l : List Opt} (code id : Int) (hM : Made w0 w u l) (hl : l.length ≤ 1000) (hX : ∀ k, X k → k < w0.heap.size) (hv : ∀ k, v.ownBlock = some k → k < w0.heap.size) :
    ∃ a n cap, u = .slice a n cap ∧ PvOk w X v ⟨code, id, a, n, cap, l⟩ := by
  obtain ⟨a, cap, rfl, hnil, hle⟩ := hM.shape
  refine ⟨a, l.length, cap, rfl, hM.opts.2, hnil, hle, hl, fun k hk => ?_⟩
  have hk' : Value.ownBlock (.slice a l.length cap) = some k := optOwn_own hk
  have h1 := hM.new k hk'
  exact ⟨fun e => by have := hX k e; omega, fun e => by have := hv k e; omega, hM.row.lt k hk'⟩
theorem asksL_few (a b : Int) : (asksL a b).length ≤ 1000 := by
  unfold asksL
  split <;> split <;> simp

set_option maxRecDepth 100000 in
set_option maxHeartbeats 4000000 in
theorem act_any (c : UInt8) (B : Nat) (X : Nat → Prop) (s : LS) (v : Value) (ps : List PV) (p : PV) (w : World) (h : Rep w B X s v ps) (hb : Bd s 1000) (hp : PvOk w X v p) (hn : ps.length ≤ 100) :
    Calls Tryd.prog 33 #[.pointer (some ⟨B, 0, none⟩), .int .u8 (c.toNat : Int), .agg #[.int .i64 p.code, .int .i64 p.id, .slice p.a p.n p.cap]] w fun e w' => e = .returned (.tuple #[]) ∧ Went w w' B X (actS c s) v ps (actO c s p.abs) := by
  have hbx := below_alloc w (.cells #[.int .i64 p.code, .int .i64 p.id, .slice p.a p.n p.cap] 36)
  have hl := h.lk.lt
  have fz : ∀ j, w.frozen? ⟨B, j, none⟩ = false := h.lk.frozen
  have nb : ∀ k : UInt8, c ≠ k → ((c.toNat : Int) == (k.toNat : Int)) = false := fun k hk => by
    rw [beq_eq_false_iff_ne]
    intro e
    exact hk (UInt8.toNat_inj.mp (by omega))
  by_cases c1 : c = 105
  · subst c1
    have H1 : Hid (Rep (w.setCell ⟨B, 8, none⟩ (.int .i64 4)) B X { s with lf := 4 } v ps) := h.setC 8 _ _ rfl
    have k1 : Kept w (w.setCell ⟨B, 8, none⟩ (.int .i64 4)) B v.ownBlock := kept_set (Kept.refl w B _) 8 _
    have d8 : w.cell? ⟨B, 8, none⟩ = some (.int .i64 s.lf) := h.lk.cell 8
    have e1 : ((105 : UInt8).toNat : Int) = 105 := rfl
    rw [e1]
    clear h hp hb nb hbx
    go_enter Tryd.func33, Tryd.ntmps33
    go_wp2_with (fail)
    first | go_end0 | refine bodyPost_ret (results_none rfl _ _ _) rfl ?_
    exact ⟨rfl, Went.still (H1.out.below (below_alloc _ _)) (k1.trans (Kept.of_below B v.ownBlock (below_alloc _ _)) (fun i e => .inl e))⟩
  · by_cases c2 : c = 122
    · subst c2
      have H1 : Hid (Rep ((w.setCell ⟨B, 8, none⟩ (.int .i64 0)).setCell ⟨B, 9, none⟩ (.int .i64 3)) B X { s with lf := 0, wt := 3 } v ps) := (h.setC 8 _ { s with lf := 0 } rfl).setC 9 _ _ rfl
      have k1 : Kept w ((w.setCell ⟨B, 8, none⟩ (.int .i64 0)).setCell ⟨B, 9, none⟩ (.int .i64 3)) B v.ownBlock := kept_set (kept_set (Kept.refl w B _) 8 _) 9 _
      have d8 : w.cell? ⟨B, 8, none⟩ = some (.int .i64 s.lf) := h.lk.cell 8
      have d9 : w.cell? ⟨B, 9, none⟩ = some (.int .i64 s.wt) := h.lk.cell 9
      have e1 : ((122 : UInt8).toNat : Int) = 122 := rfl
      rw [e1]
      clear h hp hb nb hbx c1
      go_enter Tryd.func33, Tryd.ntmps33
      go_wp2_with (fail)
      first | go_end0 | refine bodyPost_ret (results_none rfl _ _ _) rfl ?_
      exact ⟨rfl, Went.still (H1.out.below (below_alloc _ _)) (k1.trans (Kept.of_below B v.ownBlock (below_alloc _ _)) (fun i e => .inl e))⟩
    · by_cases c3 : c = 114
      · subst c3
        have H1 : Hid (Rep ((w.setCell ⟨B, 4, none⟩ (.int .i64 s.ns)).setCell ⟨B, 5, none⟩ (.int .i64 s.nm)) B X { s with qs := s.ns, qm := s.nm } v ps) := (h.setC 4 _ { s with qs := s.ns } rfl).setC 5 _ _ rfl
        have k1 : Kept w ((w.setCell ⟨B, 4, none⟩ (.int .i64 s.ns)).setCell ⟨B, 5, none⟩ (.int .i64 s.nm)) B v.ownBlock := kept_set (kept_set (Kept.refl w B _) 4 _) 5 _
        have d2 : w.cell? ⟨B, 2, none⟩ = some (.int .i64 s.ns) := h.lk.cell 2
        have d3 : w.cell? ⟨B, 3, none⟩ = some (.int .i64 s.nm) := h.lk.cell 3
        have d4 : w.cell? ⟨B, 4, none⟩ = some (.int .i64 s.qs) := h.lk.cell 4
        have d5 : w.cell? ⟨B, 5, none⟩ = some (.int .i64 s.qm) := h.lk.cell 5
        have e1 : ((114 : UInt8).toNat : Int) = 114 := rfl
        have hvl := h.row.lt
        have hxl := h.old
        rw [e1]
        clear h hp nb hbx c1 c2
        go_enter Tryd.func33, Tryd.ntmps33
        go_wp2_with (fail)
        refine (asks_any s.ns s.nm _).mono ?_
        rintro e w1 ⟨u, rfl, hM⟩
        have hs1 : w.heap.size ≤ (((w.setCell ⟨B, 4, none⟩ (.int .i64 s.ns)).setCell ⟨B, 5, none⟩ (.int .i64 s.nm)).alloc (.cells #[.int .i64 p.code, .int .i64 p.id, .slice p.a p.n p.cap] 36)).heap.size := by simp
        obtain ⟨a', n', cap', rfl, hP⟩ := pv_made (X := X) (v := v) 1 ((s.ow + 1) % 256) hM (asksL_few _ _) (fun k hk => Nat.lt_of_lt_of_le (hxl k hk) hs1) (fun k hk => Nat.lt_of_lt_of_le (hvl k hk) hs1)
        have R2 := (H1.out.below (below_alloc _ _)).below hM.below
        have K2 := k1.trans (Kept.of_below B v.ownBlock (below_chain (below_alloc _ (.cells #[.int .i64 p.code, .int .i64 p.id, .slice p.a p.n p.cap] 36)) hM.below)) (fun i e => .inl e)
        have HC := ask_any B X { s with qs := s.ns, qm := s.nm } v ps 1 a' n' cap' (asksL s.ns s.nm) w1 R2 ⟨hb.o1, hb.o2, hb.l1, hb.l2⟩ hP hn
        clear H1 d2 d3 d4 d5 fz hM R2 hP hs1
        go_wp2_with (fail)
        refine HC.mono ?_
        rintro e w2 ⟨rfl, hW⟩
        clear HC
        go_wp2_with (fail)
        first | go_end0 | refine bodyPost_ret (results_none rfl _ _ _) rfl ?_
        exact ⟨rfl, hW.from K2⟩
      · by_cases c4 : c = 116
        · subst c4
          have R1 := h.below hbx
          have HC := ask_any B X s v ps 5 none 0 0 [] _ R1 hb (pv_none _ _ _ _ _) hn
          have K1 := Kept.of_below B v.ownBlock hbx
          have e1 : ((116 : UInt8).toNat : Int) = 116 := rfl
          rw [e1]
          clear h hp nb hbx c1 c2 c3 R1
          go_enter Tryd.func33, Tryd.ntmps33
          go_wp2_with (fail)
          refine HC.mono ?_
          rintro e w2 ⟨rfl, hW⟩
          clear HC
          go_wp2_with (fail)
          first | go_end0 | refine bodyPost_ret (results_none rfl _ _ _) rfl ?_
          exact ⟨rfl, hW.from K1⟩
        · by_cases c5 : c = 107
          · subst c5
            have R1 := h.below hbx
            have HC := say_any B X s v ps ⟨6, p.id, none, 0, 0, []⟩ _ R1 (pv_none _ _ _ _ _) hn
            have K1 := Kept.of_below B v.ownBlock hbx
            have e1 : ((107 : UInt8).toNat : Int) = 107 := rfl
            have hz : ∀ w : World, (zeroValue 36).run Tryd.prog w = .ok (.agg #[.int .i64 0, .int .i64 0, .slice none 0 0]) w := fun w => by kernel_rfl
            rw [e1]
            clear h hp nb hbx c1 c2 c3 c4 R1
            go_enter Tryd.func33, Tryd.ntmps33
            go_wp2_with (fail)
            refine HC.mono ?_
            rintro e w2 ⟨rfl, v', hR, hK, hv⟩
            clear HC
            go_wp2_with (fail)
            first | go_end0 | refine bodyPost_ret (results_none rfl _ _ _) rfl ?_
            exact ⟨rfl, (show Went _ w2 B X s v ps [(6, p.id, [])] from ⟨⟨v', [_], hR, rfl, hv⟩, hK⟩).from K1⟩
          · have R1 := h.below hbx
            have P1 := hp.kept h.self (Kept.of_below B v.ownBlock hbx) (fun _ e => .inl e)
            have HC := say_any B X s v ps p _ R1 P1 hn
            have K1 := Kept.of_below B v.ownBlock hbx
            by_cases c6 : c = 97
            · subst c6
              have e1 : ((97 : UInt8).toNat : Int) = 97 := rfl
              rw [e1]
              clear h hp nb hbx c1 c2 c3 c4 c5 R1 P1
              go_enter Tryd.func33, Tryd.ntmps33
              go_wp2_with (fail)
              refine HC.mono ?_
              rintro e w2 ⟨rfl, v', hR, hK, hv⟩
              clear HC
              go_wp2_with (fail)
              first | go_end0 | refine bodyPost_ret (results_none rfl _ _ _) rfl ?_
              exact ⟨rfl, (show Went _ w2 B X s v ps [p.abs] from ⟨⟨v', [_], hR, rfl, hv⟩, hK⟩).from K1⟩
            · by_cases c7 : c = 110
              · subst c7
                have e1 : ((110 : UInt8).toNat : Int) = 110 := rfl
                rw [e1]
                clear h hp nb hbx c1 c2 c3 c4 c5 c6 R1 P1
                go_enter Tryd.func33, Tryd.ntmps33
                go_wp2_with (fail)
                refine HC.mono ?_
                rintro e w2 ⟨rfl, v', hR, hK, hv⟩
                clear HC
                go_wp2_with (fail)
                first | go_end0 | refine bodyPost_ret (results_none rfl _ _ _) rfl ?_
                exact ⟨rfl, (show Went _ w2 B X s v ps [p.abs] from ⟨⟨v', [_], hR, rfl, hv⟩, hK⟩).from K1⟩
              · have hS : actS c s = s := by simp [actS, c1, c2, c3, c4]
                have hO : actO c s p.abs = [] := by simp [actO, c3, c4, c5, c6, c7]
                have q1 : ((c.toNat : Int) == 105) = false := nb 105 c1
                have q2 : ((c.toNat : Int) == 122) = false := nb 122 c2
                have q3 : ((c.toNat : Int) == 114) = false := nb 114 c3
                have q4 : ((c.toNat : Int) == 116) = false := nb 116 c4
                have q5 : ((c.toNat : Int) == 107) = false := nb 107 c5
                have q6 : ((c.toNat : Int) == 97) = false := nb 97 c6
                have q7 : ((c.toNat : Int) == 110) = false := nb 110 c7
                rw [hS, hO]
                have HR : Hid (Rep _ B X s v ps) := R1
                clear h hp nb hbx c1 c2 c3 c4 c5 c6 c7 R1 P1 HC hS hO
                go_enter Tryd.func33, Tryd.ntmps33
                go_wp2_with (fail)
                first | go_end0 | refine bodyPost_ret (results_none rfl _ _ _) rfl ?_
                exact ⟨rfl, Went.still HR.out K1⟩
end Go.Proofs.YtgfjgenkpfdofaaDoor
