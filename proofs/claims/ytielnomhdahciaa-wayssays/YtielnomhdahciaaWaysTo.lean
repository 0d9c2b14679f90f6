/-
  To: the first of hops to a router.
-/
import Derived.Test.YtielnomhdahciaaWaysMem
import Derived.BigQuiet
namespace Go.Proofs.Ytielnomhdahciaa
open Go.RowKit St

/-- The slice reads as the hops L. -/
structure HsR (w : World) (a : Option Addr) (n : Nat) (L : List HP) : Prop where
  len : L.length = n
  row : n = 0 ∨ ∃ b off, a = some ⟨b, off, none⟩ ∧ ∀ j h, L[j]? = some h → w.cell? ⟨b, off + j * 3, none⟩ = some (.int .i64 h.dst) ∧ w.cell? ⟨b, off + j * 3 + 1, none⟩ = some (.int .i64 h.far) ∧ w.cell? ⟨b, off + j * 3 + 2, none⟩ = some (.int .i64 h.nxt)
theorem HsR.below {w w' : World} {a : Option Addr} {n : Nat} {L : List HP} (h : HsR w a n L) (hb : Below w.heap.size w w') : HsR w' a n L := by
  refine ⟨h.len, ?_⟩
  rcases h.row with h2 | ⟨b, off, rfl, h2⟩
  · exact .inl h2
  · refine .inr ⟨b, off, rfl, fun j s e => ?_⟩
    obtain ⟨c1, c2, c3⟩ := h2 j s e
    have l := World.block_lt_of_cell? w _ c1
    exact ⟨(hb.cell (p := ⟨b, off + j * 3, none⟩) l).trans c1, (hb.cell (p := ⟨b, off + j * 3 + 1, none⟩) l).trans c2, (hb.cell (p := ⟨b, off + j * 3 + 2, none⟩) l).trans c3⟩
/-- Where the first one is. -/
def idxH (L : List HP) (n : Int) : Nat → Option Nat
  | 0 => none
  | k + 1 => match idxH L n k with | some i => some i | none => (match L[k]? with | some h => if h.dst = n then some k else none | none => none)
def idxV : Option Nat → Int
  | none => -1
  | some i => (i : Int)
set_option maxRecDepth 100000 in
theorem clos_any (pd pf px x : Int) (X : Nat) (w : World) (hX : w.cell? ⟨X, 0, none⟩ = some (.int .i64 x)) :
    Calls Try.prog 66 #[.agg #[.int .i64 pd, .int .i64 pf, .int .i64 px], .pointer (some ⟨X, 0, none⟩)] w fun e w' => e = .returned (.bool (pd == x)) ∧ Below w.heap.size w w' := by
  have lX : X < w.heap.size := World.block_lt_of_cell? w _ hX
  have kb := below_alloc w (.cells #[.int .i64 pd, .int .i64 pf, .int .i64 px] 73)
  have hX2 := (kb.cell (p := ⟨X, 0, none⟩) lX).trans hX
  go_enter Try.func66, Try.ntmps66
  go_wp2_with (fail)
  go_ret
  exact ⟨rfl, kb⟩
set_option maxRecDepth 100000 in
set_option maxHeartbeats 4000000 in
theorem indexFunc_any (a : Option Addr) (n cap : Nat) (L : List HP) (x : Int) (X : Nat) (w : World) (h : HsR w a n L) (hn : n ≤ 1000) (hX : w.cell? ⟨X, 0, none⟩ = some (.int .i64 x)) :
    Calls Try.prog 65 #[.slice a n cap, .func (.func 66) #[] #[.pointer (some ⟨X, 0, none⟩)]] w fun e w' => e = .returned (.int .i64 (idxV (idxH L x n))) ∧ Below w.heap.size w w' := by
  go_enter Try.func65, Try.ntmps65
  go_wp2_with (fail)
  go_loopw [8] (fun v wr => ∃ k : Nat, k ≤ n ∧ v = .int .i64 k ∧ idxH L x k = none ∧ Below w.heap.size w wr) (fun v _ => n - (intOf v).toNat)
  case atStart => exact ⟨0, Nat.zero_le _, rfl, rfl, Below.refl _ _⟩
  case round =>
    obtain ⟨k, hk, rfl, hI, hbel⟩ := hrel
    have HI : Hid _ := hI
    clear hI
    by_cases hlt : k < n
    · have hlt' : (k : Int) < (n : Int) := by omega
      have hw := h.below hbel
      have hl := h.len
      rcases hw.row with h1 | ⟨b, off, rfl, hc⟩
      · omega
      have hg : L[k]? = some (L[k]'(by omega)) := List.getElem?_eq_getElem (by omega)
      obtain ⟨c0, c1, c2⟩ := hc k _ hg
      have HS : Hid (idxH L x (k + 1) = if (L[k]'(by omega)).dst = x then some k else none) := by
        show _ = _
        simp only [idxH, HI.out, hg]
      generalize L[k]'(by omega) = p at c0 c1 c2 HS hg
      obtain ⟨pd, pf, px⟩ := p
      simp only at c0 c1 c2 HS
      have lX : X < w.heap.size := World.block_lt_of_cell? w _ hX
      have hcl := clos_any pd pf px x X wr ((hbel.cell (p := ⟨X, 0, none⟩) lX).trans hX)
      have HB : Hid _ := hbel
      clear hc hw hg hbel
      by_cases he : pd = x
      · have he' : (pd == x) = true := by simpa using he
        rw [he'] at hcl
        have HS2 : Hid (idxH L x n = some k) := by
          have mono : ∀ d, idxH L x (k + 1 + d) = some k := by
            intro d
            induction d with
            | zero => rw [Nat.add_zero, HS.out, if_pos he]
            | succ d ih => rw [← Nat.add_assoc]; simp only [idxH, ih]
          have := mono (n - (k + 1))
          rwa [show k + 1 + (n - (k + 1)) = n by omega] at this
        clear he he'
        go_wp2_with (fail)
        refine hcl.mono ?_
        rintro e w1 ⟨rfl, k1⟩
        have HK : Hid _ := below_chain HB.out k1
        clear hcl k1
        go_wp2_with (fail)
        go_ret
        exact ⟨by rw [HS2.out]; rfl, HK.out⟩
      · have he' : (pd == x) = false := by simpa using he
        rw [he'] at hcl
        have HS2 : Hid (idxH L x (k + 1) = none) := by show _ = _; rw [HS.out, if_neg he]
        clear he he'
        go_wp2_with (fail)
        refine hcl.mono ?_
        rintro e w1 ⟨rfl, k1⟩
        have HK : Hid _ := below_chain HB.out k1
        clear hcl k1
        go_wp2_with (fail)
        go_roundw
        case rel => exact ⟨k + 1, by omega, by go_num, HS2.out, HK.out⟩
        case measure => simp [intOf]; omega
    · have hge : ¬ (k : Int) < (n : Int) := by omega
      have hkn : k = n := by omega
      have HS2 : Hid (idxH L x n = none) := by rw [← hkn]; exact HI.out
      clear hkn
      go_wp2_with (fail)
      go_ret
      exact ⟨by rw [HS2.out]; rfl, hbel⟩
/-- The first hop there. -/
def toH (L : List HP) (n : Int) : Option HP := L.find? fun h => h.dst == n
theorem idxH_find (L : List HP) (n : Int) : ∀ k, k ≤ L.length → (match idxH L n k with | some i => i < k ∧ L[i]? = toH (L.take k) n ∧ (toH (L.take k) n).isSome = true | none => toH (L.take k) n = none)
  | 0, _ => by simp [idxH, toH]
  | k + 1, hk => by
    have ih := idxH_find L n k (by omega)
    have ht : toH (L.take (k + 1)) n = (toH (L.take k) n).or (if (L[k]'(by omega)).dst = n then some (L[k]'(by omega)) else none) := by
      unfold toH
      rw [List.take_succ_eq_append_getElem (by omega), List.find?_append]
      congr 1
      by_cases e : (L[k]'(by omega)).dst = n <;> simp [e]
    simp only [idxH]
    cases hi : idxH L n k with
    | some i =>
      rw [hi] at ih
      obtain ⟨h1, h2, h3⟩ := ih
      simp only
      rw [ht]
      cases e : toH (L.take k) n with
      | none => rw [e] at h3; cases h3
      | some q => rw [e] at h2; exact ⟨by omega, by simpa using h2, rfl⟩
    | none =>
      rw [hi] at ih
      simp only at ih ⊢
      have hg : L[k]? = some (L[k]'(by omega)) := List.getElem?_eq_getElem (by omega)
      rw [ht, ih, hg]
      by_cases e : (L[k]'(by omega)).dst = n
      · simp [e]
      · simp [e]
set_option maxRecDepth 100000 in
set_option maxHeartbeats 4000000 in
theorem to_any (a : Option Addr) (n cap : Nat) (L : List HP) (x : Int) (w : World) (h : HsR w a n L) (hn : n ≤ 1000) :
    Calls Try.prog 40 #[.slice a n cap, .int .i64 x] w fun e w' => e = .returned (.tuple #[.agg #[.int .i64 ((toH L x).getD HP.zero).dst, .int .i64 ((toH L x).getD HP.zero).far, .int .i64 ((toH L x).getD HP.zero).nxt], .bool (toH L x).isSome]) ∧ Below w.heap.size w w' := by
  obtain ⟨W1, hW1⟩ : ∃ W1, (w.alloc (.cells #[.int .i64 x] 3)).alloc (.cells #[.int .i64 0, .int .i64 0, .int .i64 0] 73) = W1 := ⟨_, rfl⟩
  have hb1 : Below w.heap.size w W1 := by rw [← hW1]; exact (below_alloc _ _).alloc (by simp) _
  have hX : Blk W1 w.heap.size #[.int .i64 x] 3 := by rw [← hW1]; exact (Blk.new w _ _).below (below_alloc _ _)
  have hY : Blk W1 (w.heap.size + 1) #[.int .i64 0, .int .i64 0, .int .i64 0] 73 := by rw [← hW1]; exact Blk.newN _ _ _ _ (by simp)
  have hif := indexFunc_any a n cap L x w.heap.size W1 (h.below hb1) hn (hX.cell 0)
  have hfi := idxH_find L x L.length (Nat.le_refl _)
  rw [List.take_length, h.len] at hfi
  have hW : Hid _ := hW1
  clear hW1
  go_enter Try.func40, Try.ntmps40
  go_wp2_with (fail)
  rw [hW.out]
  refine hif.mono ?_
  rintro e w2 ⟨rfl, k2⟩
  have hY2 := hY.below k2
  have hb2 := below_chain hb1 k2
  have y0 : w2.cell? ⟨w.heap.size + 1, 0, none⟩ = some (.int .i64 0) := hY2.cell 0
  have y1 : w2.cell? ⟨w.heap.size + 1, 1, none⟩ = some (.int .i64 0) := hY2.cell 1
  have y2 : w2.cell? ⟨w.heap.size + 1, 2, none⟩ = some (.int .i64 0) := hY2.cell 2
  have f0 := hY2.frozen 0
  have f1 := hY2.frozen 1
  have f2 := hY2.frozen 2
  have lY := hY2.lt
  have HW2 := h.below hb2
  have HY2 : Hid _ := hY2
  have HB2 : Hid _ := hb2
  clear hif hX hY k2 hb1 hW hY2 hb2
  cases hi : idxH L x n with
  | none =>
    rw [hi] at hfi
    simp only at hfi
    have E1 : Hid ((toH L x).getD HP.zero = HP.zero) := by show _ = _; rw [hfi]; rfl
    have E2 : Hid ((toH L x).isSome = false) := by show _ = _; rw [hfi]; rfl
    have hv : idxV none = -1 := rfl
    rw [hv]
    clear hfi HW2 hv
    go_wp2_with (fail)
    refine bodyPost_ret (v := .tuple #[.agg #[.int .i64 0, .int .i64 0, .int .i64 0], .bool false]) (by simp [results, Try.results40, go_sem, y0, y1, y2]) rfl ?_
    exact ⟨by rw [E1.out, E2.out]; rfl, Below.setCell (Below.setCell (Below.setCell HB2.out (by show w.heap.size ≤ w.heap.size + 1; omega) _) (by show w.heap.size ≤ w.heap.size + 1; omega) _) (by show w.heap.size ≤ w.heap.size + 1; omega) _⟩
  | some i =>
    rw [hi] at hfi
    obtain ⟨h1, h2, h3⟩ := hfi
    have hi' : (i : Int) < (n : Int) := by omega
    have hi0 : ¬ (i : Int) < 0 := by omega
    obtain ⟨p, hp⟩ : ∃ p, toH L x = some p := Option.isSome_iff_exists.1 h3
    rw [hp] at h2
    have E1 : Hid ((toH L x).getD HP.zero = p) := by show _ = _; rw [hp]; rfl
    have E2 : Hid ((toH L x).isSome = true) := by show _ = _; rw [hp]; rfl
    have hv : idxV (some i) = (i : Int) := rfl
    rw [hv]
    clear hv
    rcases HW2.row with e | ⟨b, off, rfl, hc⟩
    · omega
    obtain ⟨c0, c1, c2⟩ := hc i p h2
    obtain ⟨pd, pf, px⟩ := p
    simp only at c0 c1 c2
    have hne : b ≠ w.heap.size + 1 := by
      rcases h.row with e | ⟨b', off', e', hc'⟩
      · omega
      · cases e'
        have := World.block_lt_of_cell? w _ (hc' i _ h2).1
        simp only at this
        omega
    clear h1 h2 h3 hp hc HW2
    go_wp2_with (fail)
    refine bodyPost_ret (v := .tuple #[.agg #[.int .i64 pd, .int .i64 pf, .int .i64 px], .bool true]) (by simp [results, Try.results40, go_sem, y0, y1, y2]) rfl ?_
    exact ⟨by rw [E1.out, E2.out], Below.setCell (Below.setCell (Below.setCell HB2.out (by show w.heap.size ≤ w.heap.size + 1; omega) _) (by show w.heap.size ≤ w.heap.size + 1; omega) _) (by show w.heap.size ≤ w.heap.size + 1; omega) _⟩
end Go.Proofs.Ytielnomhdahciaa
