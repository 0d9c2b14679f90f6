/-
  One end of a link: what it takes.
-/
import Derived.Test.YtgfjgenkpfdofaaDoorLinkCome
import Derived.Test.YtgfjgenkpfdofaaDoorOptWalk
namespace Go.Proofs.YtgfjgenkpfdofaaDoor
open Go.RowKit

set_option maxRecDepth 100000 in
set_option maxHeartbeats 2000000 in
theorem equal_any (a b : Option Addr) (ca cb n m : Nat) (os qs : List Opt) (w : World) (ha : OptR w a n os) (hb : OptR w b m qs) (hn : n ≤ 1000000) (hm : m ≤ 1000000) :
    Calls Tryd.prog 40 #[.slice a n ca, .slice b m cb] w fun e w' => e = .returned (.bool (decide (os = qs))) ∧ ∃ k, w' = w.drewN k := by
  have hl := ha.1
  have hl2 := hb.1
  by_cases hnm : n = m
  · subst hnm
    have heq : ((n : Int) != (n : Int)) = false := by simp
    go_enter Tryd.func40, Tryd.ntmps40
    go_wp2_with (fail)
    go_loopw [13] (fun i wr => ∃ k m : Nat, k ≤ n ∧ i = .int .i64 k ∧ os.take k = qs.take k ∧ wr = w.drewN m) (fun i _ => n - (intOf i).toNat)
    case atStart => exact ⟨0, 0, Nat.zero_le _, rfl, rfl, rfl⟩
    case round =>
      obtain ⟨k, m, hk, rfl, hT, rfl⟩ := hrel
      have HT : Hid _ := hT
      clear hT
      by_cases hlt : k < n
      · rcases ha.2 with hA | ⟨b1, o1, rfl, hA⟩
        · omega
        rcases hb.2 with hB | ⟨b2, o2, rfl, hB⟩
        · omega
        obtain ⟨c1, c2⟩ := hA k (by omega)
        obtain ⟨c3, c4⟩ := hB k (by omega)
        have H1 : Hid (os.take (k + 1) = os.take k ++ [os[k]'(by omega)]) := List.take_succ_eq_append_getElem (by omega)
        have H2 : Hid (qs.take (k + 1) = qs.take k ++ [qs[k]'(by omega)]) := List.take_succ_eq_append_getElem (by omega)
        have H3 : Hid (os = qs → os[k]'(by omega) = qs[k]'(by omega)) := fun h => by subst h; rfl
        clear hA hB
        generalize os[k]'(by omega) = o at c1 c2 H1 H3
        generalize qs[k]'(by omega) = q at c3 c4 H2 H3
        have hlt' : (k : Int) < (n : Int) := by omega
        cases q1 : (o.1 == q.1)
        · have hne : Hid (decide (os = qs) = false) := by
            show _ = _
            rw [decide_eq_false_iff_not]
            intro h
            have := H3.out h
            rw [this] at q1
            simp at q1
          go_wp2_with (fail)
          go_quiet (fail)
          go_wp2_with (fail)
          rw [hne.out]
          go_ret
          exact ⟨rfl, _, drewN_drewN _ _ _⟩
        · cases q2 : (o.2 == q.2)
          · have hne : Hid (decide (os = qs) = false) := by
              show _ = _
              rw [decide_eq_false_iff_not]
              intro h
              have := H3.out h
              rw [this] at q2
              simp at q2
            go_wp2_with (fail)
            go_quiet (fail)
            go_wp2_with (fail)
            rw [hne.out]
            go_ret
            exact ⟨rfl, _, drewN_drewN _ _ _⟩
          · have HE : Hid (os.take (k + 1) = qs.take (k + 1)) := by
              show _ = _
              rw [H1.out, H2.out, HT.out]
              simp at q1 q2
              congr 2
              exact Prod.ext q1 q2
            go_wp2_with (fail)
            go_quiet (fail)
            go_wp2_with (fail)
            go_roundw
            case rel => exact ⟨k + 1, _, by omega, by go_num, HE.out, rfl⟩
            case measure => simp [intOf]; omega
      · have hfin : decide (os = qs) = true := by
          have h1 : os.take k = os := List.take_of_length_le (by omega)
          have h2 : qs.take k = qs := List.take_of_length_le (by omega)
          have := HT.out
          rw [h1, h2] at this
          simp [this]
        go_wp2_with (fail)
        rw [hfin]
        go_ret
        exact ⟨rfl, m, rfl⟩
  · have heq : ((n : Int) != (m : Int)) = true := by simp; omega
    have hne : decide (os = qs) = false := by
      rw [decide_eq_false_iff_not]
      intro h
      subst h
      omega
    rw [hne]
    go_enter Tryd.func40, Tryd.ntmps40
    go_wp2_with (fail)
    go_ret
    exact ⟨rfl, 0, rfl⟩

def comeS (s : LS) (ev : Int) : LS := runS (stepI s.st ev).1 (s.next (stepI s.st ev).2.1)
def comeO (s : LS) (ev : Int) (ans : APkt) : List APkt := runO (stepI s.st ev).1 (s.next (stepI s.st ev).2.1) ans
theorem stepI_len (s e : Int) : (stepI s e).1.length ≤ 4 := by
  unfold stepI
  split
  · simp
  · rename_i h
    exact (show ∀ e, e < 12 → ∀ s, s < 10 → (stepR s e).1.length ≤ 4 by decide +kernel) e.toNat (by omega) s.toNat (by omega)
theorem come_ok (B : Nat) (X : Nat → Prop) (s : LS) (v : Value) (ps : List PV) (p : PV) (ev : Int) (w : World) (hT : TabOk w) (h : Rep w B X s v ps) (hb : Bd s 100) (hp : PvOk w X v p) (hn : ps.length ≤ 50) (hf : (stepI s.st ev).2.2 = 0) :
    Calls Tryd.prog 21 #[.pointer (some ⟨B, 0, none⟩), .int .i64 ev, .agg #[.int .i64 p.code, .int .i64 p.id, .slice p.a p.n p.cap]] w fun e w' => e = .returned .nilIface ∧ Went w w' B X (comeS s ev) v ps (comeO s ev p.abs) := by
  have hl := stepI_len s.st ev
  unfold comeS comeO
  obtain ⟨D, nx, f, hR⟩ : ∃ D nx f, stepI s.st ev = (D, nx, f) := ⟨_, _, _, rfl⟩
  rw [hR] at hf hl ⊢
  simp only at hf hl ⊢
  subst hf
  exact come_yes B X s v ps p ev ⟨D.toArray⟩ nx w hT h hb hp hn hR (by show D.toArray.size ≤ 4; simpa using hl)

def sizeOfL : List Opt → Int
  | [] => 255
  | o :: r => if o.1 = 1 then o.2 else sizeOfL r
set_option maxRecDepth 100000 in
set_option maxHeartbeats 2000000 in
theorem sizeOf_any (a : Option Addr) (n cap : Nat) (os : List Opt) (w : World) (hn : n ≤ 1000000) (ho : OptR w a n os) :
    Calls Tryd.prog 39 #[.slice a n cap] w fun e w' => e = .returned (.int .i64 (sizeOfL os)) ∧ Below w.heap.size w w' := by
  go_enter Tryd.func39, Tryd.ntmps39
  go_wp2_with (fail)
  go_loopw [7] (fun i wr => ∃ k : Nat, k ≤ n ∧ i = .int .i64 k ∧ sizeOfL os = sizeOfL (os.drop k) ∧ Below w.heap.size w wr) (fun i _ => n - (intOf i).toNat)
  case atStart => exact ⟨0, Nat.zero_le _, rfl, rfl, Below.refl _ _⟩
  case round =>
    obtain ⟨k, hk, rfl, hF0, hbel⟩ := hrel
    have hF : Hid _ := hF0
    clear hF0
    by_cases hlt : k < n
    · have hor := ho.below hbel
      rcases hor.2 with h0 | ⟨b, off, rfl, hc⟩
      · omega
      have hlo : k < os.length := by rw [ho.1]; exact hlt
      obtain ⟨c1, c2⟩ := hc k hlo
      have HD : Hid (os.drop k = os[k] :: os.drop (k + 1)) := List.drop_eq_getElem_cons hlo
      generalize os[k] = o at c1 c2 HD
      clear hc
      have hlt' : (k : Int) < (n : Int) := by omega
      have hw1 := hbel.alloc hbel.size (.cells #[.int .i64 o.1, .int .i64 o.2] 69)
      cases q1 : (o.1 == 1)
      · have HE : Hid (sizeOfL os = sizeOfL (os.drop (k + 1))) := by
          show _ = _
          rw [hF.out, HD.out, sizeOfL, if_neg (by simpa using q1)]
        go_wp2_with (fail)
        go_roundw
        case rel => exact ⟨k + 1, by omega, by go_num, HE.out, hw1⟩
        case measure => simp [intOf]; omega
      · have HE : Hid (sizeOfL os = o.2) := by
          show _ = _
          rw [hF.out, HD.out, sizeOfL, if_pos (by simpa using q1)]
        go_wp2_with (fail)
        rw [HE.out]
        go_ret
        exact ⟨rfl, hw1⟩
    · have HE : Hid (sizeOfL os = 255) := by
        show _ = _
        have hdd : os.drop k = [] := List.drop_eq_nil_of_le (by rw [ho.1]; omega)
        rw [hF.out, hdd, sizeOfL]
      go_wp2_with (fail)
      rw [HE.out]
      go_ret
      exact ⟨rfl, hbel⟩

/-- An end that knows what the other one takes. -/
def LS.sized (s : LS) (os : List Opt) : LS := if 6 ≤ s.st then { s with sz := sizeOfL os } else s

set_option maxRecDepth 100000 in
set_option maxHeartbeats 8000000 in
theorem request_ack (B : Nat) (X : Nat → Prop) (s : LS) (v : Value) (ps : List PV) (id : Int) (a : Option Addr) (n cap : Nat) (os : List Opt) (w : World) (hT : TabOk w) (h : Rep w B X s v ps) (hb : Bd s 100) (hn : ps.length ≤ 50)
    (ho : OptR w a n os) (hfar : ∀ k, optOwn a n = some k → ¬ X k ∧ v.ownBlock ≠ some k ∧ k < w.heap.size) (hnil : NilOk a cap) (hnn : n ≤ 1000) (m1 : 0 ≤ s.nm) (m2 : s.nm ≤ 255) (hj : judgeR s.nm os = (2, os)) (hf : (stepI s.st 6).2.2 = 0) :
    Calls Tryd.prog 25 #[.pointer (some ⟨B, 0, none⟩), .agg #[.int .i64 1, .int .i64 id, .slice a n cap]] w fun e w' => e = .returned .nilIface ∧ Went w w' B X ((comeS s 6).sized os) v ps (comeO s 6 (2, id, os)) := by
  have hk := below_alloc w (.cells #[.int .i64 1, .int .i64 id, .slice a n cap] 36)
  have hA := fun j => World.cell?_alloc_mark w #[.int .i64 1, .int .i64 id, .slice a n cap] 36 (0, 0) j
  have hl := h.lk.lt
  have hvl := h.row.lt
  have h1 := h.below hk
  have hz : ∀ w : World, (zeroValue 36).run Tryd.prog w = .ok (.agg #[.int .i64 0, .int .i64 0, .slice none 0 0]) w := fun w => by kernel_rfl
  have hol := ho.1
  obtain ⟨W1, hW1⟩ : ∃ W1, w.alloc (.cells #[.int .i64 1, .int .i64 id, .slice a n cap] 36) = W1 := ⟨_, rfl⟩
  obtain ⟨Z, hZ⟩ : ∃ Z, w.heap.size = Z := ⟨_, rfl⟩
  have d1 : W1.cell? ⟨Z, 1, none⟩ = some (.int .i64 id) := by rw [← hW1, ← hZ]; exact hA 1
  have d2 : W1.cell? ⟨Z, 2, none⟩ = some (.slice a n cap) := by rw [← hW1, ← hZ]; exact hA 2
  rw [hW1] at h1 hk
  have hBZ : B ≠ Z := by omega
  have hnz : v.ownBlock ≠ some Z := fun e => by have := hvl Z e; omega
  have HW : Hid (w.alloc (.cells #[.int .i64 1, .int .i64 id, .slice a n cap] 36) = W1) := hW1
  have HZ : Hid (w.heap.size = Z) := hZ
  clear hA hW1 hZ hl
  have c2 : W1.cell? ⟨B, 2, none⟩ = some (.int .i64 s.ns) := h1.lk.cell 2
  have c3 : W1.cell? ⟨B, 3, none⟩ = some (.int .i64 s.nm) := h1.lk.cell 3
  have hlB := h1.lk.lt
  have hlZ : Z < W1.heap.size := World.block_lt_of_cell? W1 _ d1
  have hxl := h1.old
  have hself := h1.self
  have hJ := judge_any s.ns s.nm a n cap os W1.drew m1 m2 (by omega) hnil (ho.below (below_drew hk))
  rw [hj] at hJ
  go_enter Tryd.func25, Tryd.ntmps25
  go_wp2_with (fail)
  rw [HW.out, HZ.out]
  go_region_with (go_at_call 38; refine hJ.mono ?_; rintro e w2 ⟨u, rfl, hM⟩)
  all_goals
    obtain ⟨a', n', cap', rfl, hP⟩ := pv_made (X := X) (v := v) 2 id hM (show os.length ≤ 1000 by omega) hxl (fun k hk3 => Nat.lt_of_lt_of_le (hvl k hk3) hk.size)
    have k12 : Below W1.heap.size W1 w2 := below_chain (below_drew (Below.refl _ _)) hM.below
    have R2 := h1.below k12
    have d1' : w2.cell? ⟨Z, 1, none⟩ = some (.int .i64 id) := (k12.cell (p := ⟨Z, 1, none⟩) hlZ).trans d1
    have d2' : w2.cell? ⟨Z, 2, none⟩ = some (.slice a n cap) := (k12.cell (p := ⟨Z, 2, none⟩) hlZ).trans d2
    have hlZ2 : Z < w2.heap.size := World.block_lt_of_cell? w2 _ d1'
    have k23 := below_alloc w2 (.cells #[.int .i64 2, .int .i64 id, .slice a' n' cap'] 36)
    have k03 := below_chain hk (below_chain k12 k23)
    have R3 := R2.below k23
    have P3 := hP.kept hself (Kept.of_below B v.ownBlock k23) (fun _ e => .inl e)
    have HC := come_ok B X s v ps ⟨2, id, a', n', cap', os⟩ 6 _ (hT.below k03) R3 hb P3 hn hf
    have d2'' := (k23.cell (p := ⟨Z, 2, none⟩) hlZ2).trans d2'
    have ho3 := ho.below k03
    have hlZ3 : Z < (w2.alloc (.cells #[.int .i64 2, .int .i64 id, .slice a' n' cap'] 36)).heap.size := World.block_lt_of_cell? _ _ d2''
    clear hM hP R2 k12 c2 c3 d1 d2 h1 hJ R3 P3
    go_wp2_with (fail)
    refine HC.mono ?_
    rintro e w4 ⟨rfl, hW⟩
    obtain ⟨⟨v', qs, hR4, ho4, hv4⟩, hK4⟩ := hW
    have c6 : w4.cell? ⟨B, 6, none⟩ = some (.int .i64 (comeS s 6).st) := hR4.lk.cell 6
    have z2 : w4.cell? ⟨Z, 2, none⟩ = some (.slice a n cap) := (World.cell?_of_block (a := ⟨Z, 2, none⟩) (hK4.block Z hlZ3 (fun e => hBZ e.symm) hnz)).trans d2''
    have ho5 : OptR w4 a n os := ho3.keptO (fun k hk4 => by obtain ⟨q1, q2, q3⟩ := hfar k hk4; exact hK4.block k (Nat.lt_of_lt_of_le q3 k03.size) (fun e => q1 (by rw [e]; exact hself)) q2)
    have hl4 := hR4.lk.lt
    have hlz4 : Z < w4.heap.size := World.block_lt_of_cell? w4 _ z2
    have hK04 : Kept w w4 B v.ownBlock := (Kept.of_below B v.ownBlock k03).trans hK4 (fun i e => .inl e)
    have hvv : ∀ g, v'.ownBlock = some g → v.ownBlock = some g ∨ w.heap.size ≤ g := fun g hg => by
      rcases hv4 g hg with e | e
      · exact .inl e
      · exact .inr (Nat.le_trans k03.size e)
    clear HC hv4 hK4 ho3 d2'' d2' d1' hlZ2 hlZ3 k23 k03
    obtain ⟨s', hs'⟩ : ∃ s', comeS s 6 = s' := ⟨_, rfl⟩
    rw [hs'] at hR4 c6
    have HS : Hid (comeS s 6 = s') := hs'
    clear hs'
    by_cases h6 : 6 ≤ s'.st
    · go_wp2_with (fail)
      refine (sizeOf_any a n cap os w4 (by omega) ho5).mono ?_
      rintro e w5 ⟨rfl, k5⟩
      have R5 := hR4.below k5
      have c7 : w5.cell? ⟨B, 7, none⟩ = some (.int .i64 s'.sz) := R5.lk.cell 7
      have fz : ∀ j, w5.frozen? ⟨B, j, none⟩ = false := R5.lk.frozen
      have hl5 := R5.lk.lt
      have HR6 : Hid (Rep (w5.setCell ⟨B, 7, none⟩ (.int .i64 (sizeOfL os))) B X { s' with sz := sizeOfL os } v' (ps ++ qs)) := R5.setC 7 _ _ rfl
      have HK6 : Hid (Kept w (w5.setCell ⟨B, 7, none⟩ (.int .i64 (sizeOfL os))) B v.ownBlock) := kept_set (hK04.trans (Kept.of_below B v.ownBlock k5) (fun i e => .inl e)) 7 _
      clear R5 hR4 hK04 k5 ho5 z2 c6
      go_wp2_with (fail)
      go_ret
      rw [HS.out]
      have e6 : s'.sized os = { s' with sz := sizeOfL os } := by simp [LS.sized, h6]
      rw [e6]
      exact ⟨rfl, ⟨v', qs, HR6.out, ho4, hvv⟩, HK6.out⟩
    · go_wp2_with (fail)
      go_ret
      rw [HS.out]
      have e6 : s'.sized os = s' := by unfold LS.sized; rw [if_neg (by omega)]
      rw [e6]
      exact ⟨rfl, ⟨v', qs, hR4, ho4, hvv⟩, hK04⟩

set_option maxRecDepth 100000 in
set_option maxHeartbeats 8000000 in
theorem answer_ack (B : Nat) (X : Nat → Prop) (s : LS) (v : Value) (ps : List PV) (id : Int) (a : Option Addr) (n cap : Nat) (os : List Opt) (w : World) (hT : TabOk w) (h : Rep w B X s v ps) (hb : Bd s 100) (hn : ps.length ≤ 50)
    (ho : OptR w a n os) (hnn : n ≤ 1000) (hid : id = s.ow) (hos : os = asksL s.qs s.qm) (hf : (stepI s.st 8).2.2 = 0) :
    Calls Tryd.prog 26 #[.pointer (some ⟨B, 0, none⟩), .agg #[.int .i64 2, .int .i64 id, .slice a n cap]] w fun e w' => e = .returned .nilIface ∧ Went w w' B X (comeS s 8) v ps (comeO s 8 (0, id, [])) := by
  have hk := below_alloc w (.cells #[.int .i64 2, .int .i64 id, .slice a n cap] 36)
  have hA := fun j => World.cell?_alloc_mark w #[.int .i64 2, .int .i64 id, .slice a n cap] 36 (0, 0) j
  have hl := h.lk.lt
  have h1 := h.below hk
  have hz : ∀ w : World, (zeroValue 36).run Tryd.prog w = .ok (.agg #[.int .i64 0, .int .i64 0, .slice none 0 0]) w := fun w => by kernel_rfl
  obtain ⟨W1, hW1⟩ : ∃ W1, w.alloc (.cells #[.int .i64 2, .int .i64 id, .slice a n cap] 36) = W1 := ⟨_, rfl⟩
  obtain ⟨Z, hZ⟩ : ∃ Z, w.heap.size = Z := ⟨_, rfl⟩
  have d0 : W1.cell? ⟨Z, 0, none⟩ = some (.int .i64 2) := by rw [← hW1, ← hZ]; exact hA 0
  have d1 : W1.cell? ⟨Z, 1, none⟩ = some (.int .i64 id) := by rw [← hW1, ← hZ]; exact hA 1
  have d2 : W1.cell? ⟨Z, 2, none⟩ = some (.slice a n cap) := by rw [← hW1, ← hZ]; exact hA 2
  rw [hW1] at h1 hk
  have HW : Hid (w.alloc (.cells #[.int .i64 2, .int .i64 id, .slice a n cap] 36) = W1) := hW1
  have HZ : Hid (w.heap.size = Z) := hZ
  have HBZ : Hid (B ≠ Z) := by show B ≠ Z; omega
  clear hA hW1 hZ hl
  have c4 : W1.cell? ⟨B, 4, none⟩ = some (.int .i64 s.qs) := h1.lk.cell 4
  have c5 : W1.cell? ⟨B, 5, none⟩ = some (.int .i64 s.qm) := h1.lk.cell 5
  have c10 : W1.cell? ⟨B, 10, none⟩ = some (.int .i64 id) := by rw [hid]; exact h1.lk.cell 10
  have hlB := h1.lk.lt
  have hlZ : Z < W1.heap.size := World.block_lt_of_cell? W1 _ d1
  have hee : (id != id) = false := by simp
  clear hid
  go_enter Tryd.func26, Tryd.ntmps26
  go_wp2_with (fail)
  rw [HW.out, HZ.out]
  go_quiet (fail)
  go_wp2_with (fail)
  obtain ⟨W2, hW2⟩ : ∃ W2, W1.drewN nq = W2 := ⟨_, rfl⟩
  have k12 : Below W1.heap.size W1 W2 := by rw [← hW2]; exact below_drewN (Below.refl _ _) _
  rw [hW2]
  have R2 := h1.below k12
  have e0 : W2.cell? ⟨Z, 0, none⟩ = some (.int .i64 2) := (k12.cell (p := ⟨Z, 0, none⟩) hlZ).trans d0
  have e1 : W2.cell? ⟨Z, 1, none⟩ = some (.int .i64 id) := (k12.cell (p := ⟨Z, 1, none⟩) hlZ).trans d1
  have e2 : W2.cell? ⟨Z, 2, none⟩ = some (.slice a n cap) := (k12.cell (p := ⟨Z, 2, none⟩) hlZ).trans d2
  have f4 : W2.cell? ⟨B, 4, none⟩ = some (.int .i64 s.qs) := R2.lk.cell 4
  have f5 : W2.cell? ⟨B, 5, none⟩ = some (.int .i64 s.qm) := R2.lk.cell 5
  have hlB2 := R2.lk.lt
  have hlZ2 : Z < W2.heap.size := World.block_lt_of_cell? W2 _ e1
  have k02 := below_chain hk k12
  clear d0 d1 d2 c4 c5 c10 h1 hW2 k12 hlB hlZ
  go_region_with (first
    | (go_at_call 41; refine (asks_any s.qs s.qm _).mono ?_; rintro e w3 ⟨u, rfl, hM⟩; obtain ⟨ua, uc, rfl, un, ul⟩ := hM.shape; have k3 := hM.below; have g2 : w3.cell? ⟨Z, 2, none⟩ = some (.slice a n cap) := (k3.cell (p := ⟨Z, 2, none⟩) hlZ2).trans e2)
    | (go_at_call 40; refine (equal_any a ua cap uc n _ os (asksL s.qs s.qm) w3 (ho.below (below_chain (below_drew k02) k3)) hM.opts.2 (by omega) (by have := asksL_few s.qs s.qm; omega)).mono ?_; rintro e w4 ⟨rfl, m4, rfl⟩))
  all_goals
    have hd : decide (os = asksL s.qs s.qm) = true := by simp [hos]
    have k04 : Below w.heap.size w (w3.drewN m4) := below_drewN (below_chain (below_drew k02) k3) m4
    have k24 : Below W2.heap.size W2 (w3.drewN m4) := below_drewN (below_chain (below_drew (Below.refl _ _)) k3) m4
    have R4 := R2.below k24
    have g1 : (w3.drewN m4).cell? ⟨Z, 1, none⟩ = some (.int .i64 id) := (k24.cell (p := ⟨Z, 1, none⟩) hlZ2).trans e1
    have hlZ4 : Z < (w3.drewN m4).heap.size := World.block_lt_of_cell? _ _ g1
    have HC := come_ok B X s v ps ⟨0, id, none, 0, 0, []⟩ 8 _ (hT.below k04) R4 hb (pv_none _ _ _ _ _) hn hf
    clear R2 R4 k24 hM hos
    try rw [hd]
    go_wp2_with (fail)
    refine HC.mono ?_
    rintro e w5 ⟨rfl, hW⟩
    clear HC
    go_wp2_with (fail)
    go_ret
    exact ⟨rfl, hW.from (Kept.of_below B v.ownBlock k04)⟩
end Go.Proofs.YtgfjgenkpfdofaaDoor
