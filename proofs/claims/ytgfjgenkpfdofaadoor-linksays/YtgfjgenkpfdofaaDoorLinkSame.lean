/-
  SamePacket, SamePackets, where they are the same.
-/
import Derived.Test.YtgfjgenkpfdofaaDoorLinkRep
import Derived.Test.YtgfjgenkpfdofaaDoorLinkAct
import Derived.Test.YtgfjgenkpfdofaaDoorSameOpt
namespace Go.Proofs.YtgfjgenkpfdofaaDoor
open Go.RowKit

theorem pvC_get : ∀ (ps : List PV) (j : Nat) (p : PV), ps[j]? = some p → (pvC ps)[j * 3]? = some (.int .i64 p.code) ∧ (pvC ps)[j * 3 + 1]? = some (.int .i64 p.id) ∧ (pvC ps)[j * 3 + 2]? = some p.val
  | [], j, p, h => by simp at h
  | q :: r, 0, p, h => by
    have : q = p := by simpa using h
    subst this
    exact ⟨rfl, rfl, rfl⟩
  | q :: r, j + 1, p, h => by
    have h' : r[j]? = some p := by simpa using h
    obtain ⟨a, b, c⟩ := pvC_get r j p h'
    have e : pvC (q :: r) = .int .i64 q.code :: .int .i64 q.id :: q.val :: pvC r := rfl
    rw [e, show (j + 1) * 3 = j * 3 + 1 + 1 + 1 by omega, show j * 3 + 1 + 1 + 1 + 1 = (j * 3 + 1) + 1 + 1 + 1 by omega, show j * 3 + 1 + 1 + 1 + 2 = (j * 3 + 2) + 1 + 1 + 1 by omega]
    simp only [List.getElem?_cons_succ]
    exact ⟨a, b, c⟩
set_option maxRecDepth 100000 in
set_option maxHeartbeats 2000000 in
theorem samePacket_yes (c i : Int) (a b : Option Addr) (n ca m cb : Nat) (os : List Opt) (w : World) (ha : OptR w a n os) (hb : OptR w b m os) (hn : n ≤ 1000) (hm : m ≤ 1000) :
    Calls Tryd.prog 31 #[.agg #[.int .i64 c, .int .i64 i, .slice a n ca], .agg #[.int .i64 c, .int .i64 i, .slice b m cb]] w fun e w' => e = .returned (.bool true) ∧ Below w.heap.size w w' := by
  have hk : Below w.heap.size w ((w.alloc (.cells #[.int .i64 c, .int .i64 i, .slice a n ca] 36)).alloc (.cells #[.int .i64 c, .int .i64 i, .slice b m cb] 36)) := below_chain (below_alloc _ _) (below_alloc _ _)
  have hs := sameOptions_any a b ca cb n m os os _ (ha.below hk) (hb.below hk) (by omega) (by omega)
  have hd : decide (os = os) = true := by simp
  rw [hd] at hs
  have hcc : (c == c) = true := by simp
  have hii : (i == i) = true := by simp
  clear ha hb hd
  go_enter Tryd.func31, Tryd.ntmps31
  go_wp2_with (fail)
  refine hs.mono ?_
  rintro e w1 ⟨rfl, k, rfl⟩
  clear hs
  go_wp2_with (fail)
  go_ret
  exact ⟨rfl, below_drewN hk k⟩
/-- A list of packets as it lies. -/
structure PksR (w : World) (v : Value) (ps : List PV) : Prop where
  row : Row w 3 v ps.length (pvC ps)
  opt : ∀ p ∈ ps, OptR w p.a p.n p.os ∧ p.n ≤ 1000
theorem PksR.below {w w' : World} {v : Value} {ps : List PV} (h : PksR w v ps) (hb : Below w.heap.size w w') : PksR w' v ps := ⟨h.row.below hb, fun p hp => ⟨(h.opt p hp).1.below hb, (h.opt p hp).2⟩⟩
theorem PksR.shape {w : World} {v : Value} {ps : List PV} (h : PksR w v ps) : ∃ (a : Option Addr) (c : Nat), v = .slice a ps.length c ∧ ∀ j p, ps[j]? = some p → ∃ g, a = some ⟨g, 0, none⟩ ∧ w.cell? ⟨g, 0 + j * 3, none⟩ = some (.int .i64 p.code) ∧ w.cell? ⟨g, 0 + j * 3 + 1, none⟩ = some (.int .i64 p.id) ∧ w.cell? ⟨g, 0 + j * 3 + 2, none⟩ = some (.slice p.a p.n p.cap) := by
  rcases h.row.2 with ⟨e1, e2⟩ | ⟨g, c, e1, hg, hnc, hcm, hcell, _⟩
  · refine ⟨none, 0, by rw [e2, e1], fun j p hj => ?_⟩
    have := (List.getElem?_eq_some_iff.1 hj).1
    omega
  · refine ⟨_, c, e1, fun j p hj => ⟨g, rfl, ?_⟩⟩
    obtain ⟨a, b, d⟩ := pvC_get ps j p hj
    rw [Nat.zero_add]
    exact ⟨hcell _ _ a, hcell _ _ b, hcell _ _ d⟩
set_option maxRecDepth 100000 in
set_option maxHeartbeats 4000000 in
theorem samePackets_yes (v v2 : Value) (ps qs : List PV) (w : World) (h : PksR w v ps) (h2 : PksR w v2 qs) (he : ps.map PV.abs = qs.map PV.abs) (hn : ps.length ≤ 1000) :
    Calls Tryd.prog 17 #[v, v2] w fun e w' => e = .returned (.bool true) ∧ Below w.heap.size w w' := by
  have hl : qs.length = ps.length := by have := congrArg List.length he; simpa using this.symm
  obtain ⟨a, ca, rfl, _⟩ := h.shape
  obtain ⟨b, cb, rfl, _⟩ := h2.shape
  rw [hl]
  obtain ⟨n, hn2⟩ : ∃ n, ps.length = n := ⟨_, rfl⟩
  have H1 : Hid (∀ W, Below w.heap.size w W → PksR W (.slice a ps.length ca) ps) := fun W hW => h.below hW
  have H2 : Hid (∀ W, Below w.heap.size w W → PksR W (.slice b qs.length cb) qs) := fun W hW => h2.below hW
  have HE : Hid _ := he
  have HL : Hid _ := hl
  have HN : Hid _ := hn2
  rw [hn2] at hn
  rw [hn2]
  have hee : ((n : Int) != (n : Int)) = false := by simp
  clear h h2 he hl hn2
  go_enter Tryd.func17, Tryd.ntmps17
  go_wp2_with (fail)
  go_loopw [5] (fun i wr => ∃ k : Nat, k ≤ n ∧ i = .int .i64 k ∧ Below w.heap.size w wr) (fun i _ => n - (intOf i).toNat)
  case atStart => exact ⟨0, Nat.zero_le _, rfl, Below.refl _ _⟩
  case round =>
    obtain ⟨k, hk, rfl, hbel⟩ := hrel
    by_cases hlt : k < n
    · have hlt' : (k : Int) < (n : Int) := by omega
      have hk0 : (0 : Int) ≤ (k : Int) := by omega
      have P1 := H1.out wr.drew (below_drew hbel)
      have P2 := H2.out wr.drew (below_drew hbel)
      have l1 : k < ps.length := by have := HN.out; omega
      have l2 : k < qs.length := by have := HN.out; have := HL.out; omega
      obtain ⟨a', ca', e1, f1⟩ := P1.shape
      obtain ⟨b', cb', e2, f2⟩ := P2.shape
      obtain ⟨g1, ea, x0, x1, x2⟩ := f1 k ps[k] (List.getElem?_eq_getElem l1)
      obtain ⟨g2, eb, y0, y1, y2⟩ := f2 k qs[k] (List.getElem?_eq_getElem l2)
      have e1' : a = a' := by simpa using (Value.slice.inj e1).1
      have e2' : b = b' := by simpa using (Value.slice.inj e2).1
      rw [ea] at e1'
      rw [eb] at e2'
      subst e1' e2'
      have hab : ps[k].abs = qs[k].abs := by
        have h3 := congrArg (fun l => l[k]?) HE.out
        simp [l1, l2] at h3
        exact h3
      have ho1 := P1.opt ps[k] (List.getElem_mem l1)
      have ho2 := P2.opt qs[k] (List.getElem_mem l2)
      generalize ps[k] = p at x0 x1 x2 hab ho1
      generalize qs[k] = q at y0 y1 y2 hab ho2
      obtain ⟨pc, pi, pa, pn, pcap, pos⟩ := p
      obtain ⟨qc, qi, qa, qn, qcap, qos⟩ := q
      simp only [PV.abs, Prod.mk.injEq] at hab
      obtain ⟨r1, r2, r3⟩ := hab
      subst r1 r2 r3
      simp only at x0 x1 x2 y0 y1 y2 ho1 ho2
      have hs := samePacket_yes pc pi pa qa pn pcap qn qcap pos wr.drew ho1.1 ho2.1 ho1.2 ho2.2
      have z0 : wr.cell? ⟨g1, k * 3, none⟩ = some (.int .i64 pc) := by rw [Nat.zero_add] at x0; exact x0
      have z1 : wr.cell? ⟨g1, k * 3 + 1, none⟩ = some (.int .i64 pi) := by rw [Nat.zero_add] at x1; exact x1
      have z2 : wr.cell? ⟨g1, k * 3 + 2, none⟩ = some (.slice pa pn pcap) := by rw [Nat.zero_add] at x2; exact x2
      have u0 : wr.cell? ⟨g2, k * 3, none⟩ = some (.int .i64 pc) := by rw [Nat.zero_add] at y0; exact y0
      have u1 : wr.cell? ⟨g2, k * 3 + 1, none⟩ = some (.int .i64 pi) := by rw [Nat.zero_add] at y1; exact y1
      have u2 : wr.cell? ⟨g2, k * 3 + 2, none⟩ = some (.slice qa qn qcap) := by rw [Nat.zero_add] at y2; exact y2
      clear P1 P2 f1 f2 e1 e2 ea eb ho1 ho2 x0 x1 x2 y0 y1 y2
      have HB : Hid _ := hbel
      clear hbel
      go_wp2_with (fail)
      go_region_with (go_at_call 31; refine hs.mono ?_; rintro e w3 ⟨rfl, b3⟩)
      all_goals
        have HB3 : Hid (Below w.heap.size w w3) := below_chain (below_drew HB.out) b3
        clear hs b3
        go_wp2_with (fail)
        go_roundw
        case rel => exact ⟨k + 1, by omega, by go_num, HB3.out⟩
        case measure => simp [intOf]; omega
    · have hge : ¬ (k : Int) < (n : Int) := by omega
      go_wp2_with (fail)
      go_ret
      exact ⟨rfl, hbel⟩
end Go.Proofs.YtgfjgenkpfdofaaDoor
