/-
  States copied and held against each other: slices.Clone, the program's Copy, the document's SameState and Newer, LightState.
-/
import Derived.Test.YtgfjgenkpfdofaaStNewer
namespace Go.Proofs.Ytgfjgenkpfdofaa
open Go.RowKit St

theorem grow_below {w x w' : World} {v : Value} (hbel : Below w.heap.size w x) (hg : x.grownBy w' v.ownBlock) (hnew : ∀ j, v.ownBlock = some j → w.heap.size ≤ j) : Below w.heap.size w w' :=
  hbel.grown hg hbel.size hnew
theorem grow_new {B n : Nat} {v : Value} {g : Nat} (hown : v.ownBlock = some g ∨ n ≤ g) (hs : B ≤ n) (hnew : ∀ j, v.ownBlock = some j → B ≤ j) : B ≤ g := by
  rcases hown with h | h
  · exact hnew g h
  · exact Nat.le_trans hs h
theorem grown_cell {x w' : World} {row : Option Nat} {b off : Nat} {u : Value} (hg : x.grownBy w' row) (hne : row ≠ some b) (hc : x.cell? ⟨b, off, none⟩ = some u) : w'.cell? ⟨b, off, none⟩ = some u :=
  (World.cell?_of_block (a := ⟨b, off, none⟩) (hg.block b (World.block_lt_of_cell? x _ hc) (fun e => hne e.symm))).trans hc
theorem own_some {g n cap j : Nat} {B : Nat} (h : B ≤ g) (hj : Value.ownBlock (.slice (some ⟨g, 0, none⟩) n cap) = some j) : B ≤ j := by
  have : g = j := by simpa [Value.ownBlock] using hj
  omega
theorem own_none {B j : Nat} (hj : Value.ownBlock (.slice none 0 0) = some j) : B ≤ j := by simp [Value.ownBlock] at hj

theorem cells_twoN (w : World) (x y : Value) (t : TypeId) (g : Nat) (hg : w.heap.size = g) : ∀ (j : Nat) (u : Value), [x, y][j]? = some u → (w.alloc (.cells #[x, y] t)).cell? ((⟨g, 0, none⟩ : Addr).add j) = some u := by
  subst hg
  exact cells_two w x y t
/-- A slice of options that the call made. -/
structure Made (w w' : World) (v : Value) (os : List Opt) : Prop where
  row : Row w' 2 v os.length (optCells os)
  new : ∀ j, v.ownBlock = some j → w.heap.size ≤ j
  below : Below w.heap.size w w'

theorem not_nil (a : Addr) (n cap : Nat) (w : World) : (binOp .eql 33 (.slice (some a) n cap) (.slice none 0 0)).run Try.prog w = .ok (.bool false) w := by kernel_rfl
theorem is_nil (w : World) : (binOp .eql 33 (.slice none 0 0) (.slice none 0 0)).run Try.prog w = .ok (.bool true) w := by kernel_rfl
theorem one_opts (os : List Opt) : ∀ u ∈ optCells os, u.oneCell' = true := by
  intro u hu
  simp [optCells] at hu
  obtain ⟨x, y, _, h⟩ := hu
  rcases h with rfl | rfl <;> rfl
theorem OptR.cells {w : World} {b off n : Nat} {os : List Opt} (h : OptR w (some ⟨b, off, none⟩) n os) (hn : 0 < n) : ∀ (j : Nat) (u : Value), (optCells os)[j]? = some u → w.cell? ((⟨b, off, none⟩ : Addr).add j) = some u := by
  intro j u hu
  rcases h.2 with h0 | ⟨b', off', he, hc⟩
  · omega
  · simp only [Option.some.injEq, Addr.mk.injEq] at he
    obtain ⟨rfl, rfl, _⟩ := he
    have hj : j < 2 * os.length := by have := (List.getElem?_eq_some_iff.1 hu).1; rwa [optCells_length] at this
    have hq : j / 2 < os.length := by omega
    obtain ⟨g1, g2⟩ := optCells_get os (j / 2) hq
    obtain ⟨c1, c2⟩ := hc (j / 2) hq
    rw [add_plain']
    rcases Nat.mod_two_eq_zero_or_one j with h2 | h2
    · have e : j / 2 * 2 = j := by omega
      rw [e] at g1 c1
      rw [hu] at g1
      rw [c1, g1]
    · have e : j / 2 * 2 + 1 = j := by omega
      rw [e] at g2
      rw [hu] at g2
      rw [show off + j / 2 * 2 + 1 = off + j by omega] at c2
      rw [c2, g2]
set_option maxRecDepth 100000 in
theorem clone_zero (a : Addr) (cap : Nat) (w : World) :
    Calls Try.prog 42 #[.slice (some a) 0 cap] w fun e w' => ∃ (v : Value), e = .returned v ∧ Made w w' v [] := by
  have hq := not_nil
  go_enter Try.func42, Try.ntmps42
  go_wp2
  go_ret
  exact ⟨_, rfl, ⟨Row.made w 2 _ #[] (0, 0) 0 0 [] rfl rfl (Nat.le_refl _) (by decide) (.inl rfl) (by simp), fun j hj => own_some (Nat.le_refl _) hj, below_alloc _ _⟩⟩
set_option maxRecDepth 100000 in
theorem clone_nil (w : World) :
    Calls Try.prog 42 #[.slice none 0 0] w fun e w' => ∃ (v : Value), e = .returned v ∧ Made w w' v [] := by
  have hq := is_nil
  go_enter Try.func42, Try.ntmps42
  go_wp2
  go_ret
  exact ⟨_, rfl, ⟨Row.nil w 2, fun j hj => own_none hj, Below.refl _ _⟩⟩
set_option maxRecDepth 100000 in
theorem clone_some (b off n cap : Nat) (os : List Opt) (w : World) (hn : n ≤ 1000000) (hpos : 0 < n) (ho : OptR w (some ⟨b, off, none⟩) n os) :
    Calls Try.prog 42 #[.slice (some ⟨b, off, none⟩) n cap] w fun e w' => ∃ (v : Value), e = .returned v ∧ Made w w' v os := by
  obtain ⟨i0, hi, hz0, hz1, hz2⟩ := info_parts infoEdge
  have hq := not_nil
  have hw0 : Below w.heap.size w (w.alloc (.cells #[] 78)) := below_alloc _ _
  have hl := ho.1
  have hrow : Row (w.alloc (.cells #[] 78)) 2 (.slice (some ⟨w.heap.size, 0, none⟩) 0 0) 0 [] := Row.made w 2 _ #[] (0, 0) 0 0 [] rfl rfl (Nat.le_refl _) (by decide) (.inl rfl) (by simp)
  go_enter Try.func42, Try.ntmps42
  go_wp2_with (at_builtin; go_must (refine wpList_append_row _ rfl (.tmp 5) (.tmp 6) 33 rfl 78 i0 (.agg #[.int .i64 0, .int .i64 0]) 2 16 Try.underlying33 hi hz0 hz1 hz2 rfl (by decide) (.slice (some ⟨w.heap.size, 0, none⟩) 0 0) 0 [] rfl hrow _ n cap (optCells os) rfl (by rw [optCells_length]; omega) hpos ((ho.below hw0).cells hpos) (one_opts _) (by unfold maxLen; omega) (by omega) ?_))
  intro g1 cap1 w1 hr1 hg1 hown1
  have hb1 := grow_below hw0 hg1 (fun j hj => own_some (Nat.le_refl _) hj)
  have hn1 := grow_new (B := w.heap.size) hown1 (by omega) (fun j hj => own_some (Nat.le_refl _) hj)
  clear hg1 hown1
  go_wp2_with (fail)
  go_ret
  refine ⟨_, rfl, ⟨?_, fun j hj => own_some hn1 hj, hb1⟩⟩
  rw [hl]
  exact hr1
/-- A slice that is nil has no place. -/
def NilOk (a : Option Addr) (cap : Nat) : Prop := a = none → cap = 0
theorem clone_any (a : Option Addr) (n cap : Nat) (os : List Opt) (w : World) (hn : n ≤ 1000000) (hnil : NilOk a cap) (ho : OptR w a n os) :
    Calls Try.prog 42 #[.slice a n cap] w fun e w' => ∃ (v : Value), e = .returned v ∧ Made w w' v os := by
  rcases ho.2 with h0 | ⟨b, off, rfl, hc⟩
  · subst h0
    have hos : os = [] := List.eq_nil_of_length_eq_zero ho.1
    subst hos
    cases a with
    | none =>
      obtain rfl := hnil rfl
      exact clone_nil w
    | some a => exact clone_zero a cap w
  · by_cases hpos : 0 < n
    · exact clone_some b off n cap os w hn hpos ho
    · have h0 : n = 0 := by omega
      subst h0
      have hos : os = [] := List.eq_nil_of_length_eq_zero ho.1
      subst hos
      exact clone_zero _ cap w
theorem Made.shape {w w' : World} {v : Value} {os : List Opt} (h : Made w w' v os) : ∃ a cap, v = .slice a os.length cap ∧ NilOk a cap ∧ os.length ≤ cap := by
  rcases h.row.2 with ⟨rfl, h0⟩ | ⟨g, cap, rfl, _, h1, _⟩
  · rw [h0]
    exact ⟨none, 0, rfl, fun _ => rfl, Nat.le_refl _⟩
  · exact ⟨some ⟨g, 0, none⟩, cap, rfl, fun h => by simp at h, h1⟩
theorem Made.opts {w w' : World} {a : Option Addr} {n cap : Nat} {os : List Opt} (h : Made w w' (.slice a n cap) os) : n = os.length ∧ OptR w' a n os := by
  have hn : n = os.length := by
    rcases h.row.2 with ⟨e, h0⟩ | ⟨g, cap, e, _⟩
    · simp at e; omega
    · simp at e; omega
  have hr := h.row
  rw [← hn] at hr
  exact ⟨hn, hr.opts⟩
theorem Made.from {w x w' : World} {v : Value} {os : List Opt} (h : Made x w' v os) (hb : Below w.heap.size w x) : Made w w' v os :=
  ⟨h.row, fun j hj => Nat.le_trans hb.size (h.new j hj), below_chain hb h.below⟩


/-- A copy of a state. -/
structure Copied (w w' : World) (e : Ending) (own seq : Int) (os : List Opt) : Prop where
  out : ∃ (a : Option Addr) (cap : Nat), e = .returned (.agg #[.int .i64 own, .int .i64 seq, .slice a os.length cap]) ∧ OptR w' a os.length os ∧ NilOk a cap ∧ os.length ≤ cap ∧ (∀ j, Value.ownBlock (.slice a os.length cap) = some j → w.heap.size ≤ j ∧ j < w'.heap.size)
  below : Below w.heap.size w w'
set_option maxRecDepth 100000 in
set_option maxHeartbeats 2000000 in
theorem copy_any (own seq : Int) (a : Option Addr) (n cap : Nat) (os : List Opt) (w : World) (hn : n ≤ 1000000) (hnil : NilOk a cap) (ho : OptR w a n os) :
    Calls Try.prog 35 #[.agg #[.int .i64 own, .int .i64 seq, .slice a n cap]] w fun e w' => Copied w w' e own seq os := by
  have hz := zeroState
  have hw0 : Below w.heap.size w ((w.alloc (.cells #[.int .i64 own, .int .i64 seq, .slice a n cap] 35)).alloc (.cells #[.int .i64 0, .int .i64 0, .slice none 0 0] 35)) := (below_alloc _ _).alloc (by simp) _
  obtain ⟨W0, hW0⟩ : ∃ W0, (w.alloc (.cells #[.int .i64 own, .int .i64 seq, .slice a n cap] 35)).alloc (.cells #[.int .i64 0, .int .i64 0, .slice none 0 0] 35) = W0 := ⟨_, rfl⟩
  have hX0 : W0.heap[w.heap.size]? = some (.cells #[.int .i64 own, .int .i64 seq, .slice a n cap] 35 (0, 0)) := by
    rw [← hW0, Below.heap_alloc _ _ _ (by simp)]
    exact heap_alloc_new w _
  have hY0 : W0.heap[w.heap.size + 1]? = some (.cells #[.int .i64 0, .int .i64 0, .slice none 0 0] 35 (0, 0)) := by
    have h := heap_alloc_new (w.alloc (.cells #[.int .i64 own, .int .i64 seq, .slice a n cap] 35)) (.cells #[.int .i64 0, .int .i64 0, .slice none 0 0] 35)
    rw [hW0] at h
    simpa using h
  rw [hW0] at hw0
  have hcl := clone_any a n cap os W0 hn hnil (ho.below hw0)
  have HW : Hid _ := hW0
  clear hW0
  go_enter Try.func35, Try.ntmps35
  go_wp2_with (fail)
  rw [HW.out]
  refine hcl.mono ?_
  rintro e w1 ⟨v, rfl, hM⟩
  clear hcl
  obtain ⟨va, vc, rfl, vn, vl⟩ := hM.shape
  have k1 := hM.below
  have hX1 := (k1.block _ (Array.getElem?_eq_some_iff.1 hX0).1).trans hX0
  have hY1 := (k1.block _ (Array.getElem?_eq_some_iff.1 hY0).1).trans hY0
  have x0 : w1.cell? ⟨w.heap.size, 0, none⟩ = some (.int .i64 own) := cell_of_row w1 _ 0 _ _ (0, 0) hX1
  have x1 : w1.cell? ⟨w.heap.size, 1, none⟩ = some (.int .i64 seq) := cell_of_row w1 _ 1 _ _ (0, 0) hX1
  have x2 : w1.cell? ⟨w.heap.size, 2, none⟩ = some (.slice a n cap) := cell_of_row w1 _ 2 _ _ (0, 0) hX1
  have y0 : w1.cell? ⟨w.heap.size + 1, 0, none⟩ = some (.int .i64 0) := cell_of_row w1 _ 0 _ _ (0, 0) hY1
  have y1 : w1.cell? ⟨w.heap.size + 1, 1, none⟩ = some (.int .i64 0) := cell_of_row w1 _ 1 _ _ (0, 0) hY1
  have y2 : w1.cell? ⟨w.heap.size + 1, 2, none⟩ = some (.slice none 0 0) := cell_of_row w1 _ 2 _ _ (0, 0) hY1
  have fx := fun j => frozen_of_row w1 w.heap.size j _ _ hX1
  have fy := fun j => frozen_of_row w1 (w.heap.size + 1) j _ _ hY1
  have lx : w.heap.size < w1.heap.size := World.block_lt_of_cell? w1 _ x0
  have ly : w.heap.size + 1 < w1.heap.size := World.block_lt_of_cell? w1 _ y0
  have hk := below_chain hw0 k1
  have hnew : ∀ j, Value.ownBlock (.slice va os.length vc) = some j → w.heap.size + 2 ≤ j := fun j hj => by
    have h1 := hM.new j hj
    have h2 : w.heap.size + 1 < W0.heap.size := (Array.getElem?_eq_some_iff.1 hY0).1
    omega
  have hlt : ∀ j, Value.ownBlock (.slice va os.length vc) = some j → j < w1.heap.size := hM.row.lt
  have hopt := hM.opts.2
  have HC : Hid (∀ u v x y : Value, Copied w ((((w1.setCell ⟨w.heap.size, 2, none⟩ u).setCell ⟨w.heap.size + 1, 0, none⟩ v).setCell ⟨w.heap.size + 1, 1, none⟩ x).setCell ⟨w.heap.size + 1, 2, none⟩ y) (.returned (.agg #[.int .i64 own, .int .i64 seq, .slice va os.length vc])) own seq os) := by
    intro u v x y
    refine ⟨⟨va, vc, rfl, ?_, vn, vl, fun j hj => ⟨by have := hnew j hj; omega, by simpa using hlt j hj⟩⟩, (((hk.setCell (Nat.le_refl _) _).setCell (by show _ ≤ w.heap.size + 1; omega) _).setCell (by show _ ≤ w.heap.size + 1; omega) _).setCell (by show _ ≤ w.heap.size + 1; omega) _⟩
    refine ⟨rfl, ?_⟩
    rcases hopt.2 with h0 | ⟨b, off, rfl, hc⟩
    · exact .inl h0
    · refine .inr ⟨b, off, rfl, fun j hj => ?_⟩
      have hb : w.heap.size + 2 ≤ b := hnew b rfl
      have e1 : ∀ o, ((((w1.setCell ⟨w.heap.size, 2, none⟩ u).setCell ⟨w.heap.size + 1, 0, none⟩ v).setCell ⟨w.heap.size + 1, 1, none⟩ x).setCell ⟨w.heap.size + 1, 2, none⟩ y).cell? ⟨b, o, none⟩ = w1.cell? ⟨b, o, none⟩ := fun o => by
        apply World.cell?_of_block
        rw [Below.heap_setCell _ _ _ _ (by show b ≠ w.heap.size + 1; omega), Below.heap_setCell _ _ _ _ (by show b ≠ w.heap.size + 1; omega), Below.heap_setCell _ _ _ _ (by show b ≠ w.heap.size + 1; omega), Below.heap_setCell _ _ _ _ (by show b ≠ w.heap.size; omega)]
      rw [e1, e1]
      exact hc j hj
  clear hM k1 hX1 hY1 hnew hlt hopt hk hX0 hY0
  go_wp2_with (fail)
  refine bodyPost_ret (v := .agg #[.int .i64 own, .int .i64 seq, .slice va os.length vc]) (by simp [results, Try.results35, go_sem, y0, y1, y2]) rfl ?_
  exact HC.out _ _ _ _

/-- Two boxes' lists, in a later world. -/
theorem box_pair {w w1 : World} {x0 x1 x2 y0 y1 y2 : Value} {t : TypeId} (hb : Below ((w.alloc (.cells #[x0, x1, x2] t)).alloc (.cells #[y0, y1, y2] t)).heap.size ((w.alloc (.cells #[x0, x1, x2] t)).alloc (.cells #[y0, y1, y2] t)) w1) :
    (w1.cell? ⟨w.heap.size, 2, none⟩ = some x2 ∧ w.heap.size < w1.heap.size) ∧ (w1.cell? ⟨w.heap.size + 1, 2, none⟩ = some y2 ∧ w.heap.size + 1 < w1.heap.size) := by
  have h2 := box3 hb
  have e1 : (w.alloc (.cells #[x0, x1, x2] t)).heap.size = w.heap.size + 1 := by simp
  rw [e1] at h2
  have h1 := box3 (w1 := w1) (below_chain (below_alloc _ _) hb)
  exact ⟨⟨h1.2.2.1, h1.2.2.2⟩, ⟨h2.2.2.1, h2.2.2.2⟩⟩

set_option maxRecDepth 100000 in
set_option maxHeartbeats 4000000 in
theorem sameState_any (o1 s1 o2 s2 : Int) (a b : Option Addr) (n m ca cb : Nat) (es fs : List Opt) (w : World) (ha : OptR w a n es) (hb : OptR w b m fs) (hn : n ≤ 1000000) (hm : m ≤ 1000000) :
    Calls Try.prog 24 #[.agg #[.int .i64 o1, .int .i64 s1, .slice a n ca], .agg #[.int .i64 o2, .int .i64 s2, .slice b m cb]] w fun e w' => e = .returned (.bool (decide (o1 = o2 ∧ s1 = s2 ∧ es = fs))) ∧ Below w.heap.size w w' := by
  have hla := ha.1
  have hlb := hb.1
  have hw0 : Below w.heap.size w ((w.alloc (.cells #[.int .i64 o1, .int .i64 s1, .slice a n ca] 35)).alloc (.cells #[.int .i64 o2, .int .i64 s2, .slice b m cb] 35)) := (below_alloc _ _).alloc (by simp) _
  cases q1 : (o1 != o2)
  · have e1 : o1 = o2 := by simpa using q1
    cases q2 : (s1 != s2)
    · have e2 : s1 = s2 := by simpa using q2
      by_cases q3 : n = m
      · subst q3
        have q3' : ((n : Int) != (n : Int)) = false := by simp
        have hD : decide (o1 = o2 ∧ s1 = s2 ∧ es = fs) = decide (es = fs) := by simp [e1, e2]
        rw [hD]
        clear hD e1 e2
        go_enter Try.func24, Try.ntmps24
        go_wp2_with (fail)
        obtain ⟨W0, hW0⟩ : ∃ W0, (w.alloc (.cells #[.int .i64 o1, .int .i64 s1, .slice a n ca] 35)).alloc (.cells #[.int .i64 o2, .int .i64 s2, .slice b n cb] 35) = W0 := ⟨_, rfl⟩
        have hbx := box_pair (w1 := W0) (by rw [← hW0]; exact Below.refl _ _)
        obtain ⟨⟨x2, xl⟩, ⟨y2, yl⟩⟩ := hbx
        rw [hW0] at hw0 ⊢
        clear hW0
        go_loopw [5] (fun i wr => ∃ k j : Nat, k ≤ n ∧ i = .int .i64 k ∧ es.take k = fs.take k ∧ wr = W0.drewN j) (fun i _ => n - (intOf i).toNat)
        case atStart => exact ⟨0, 0, Nat.zero_le _, rfl, rfl, rfl⟩
        case round =>
          obtain ⟨k, j, hk, rfl, hT, rfl⟩ := hrel
          have HT : Hid _ := hT
          clear hT
          by_cases hlt : k < n
          · rcases (ha.below hw0).2 with h0 | ⟨b1, f1, rfl, hA⟩
            · omega
            rcases (hb.below hw0).2 with h0 | ⟨b2, f2, rfl, hB⟩
            · omega
            obtain ⟨c1, c2⟩ := hA k (by omega)
            obtain ⟨c3, c4⟩ := hB k (by omega)
            have H1 : Hid (es.take (k + 1) = es.take k ++ [es[k]'(by omega)]) := List.take_succ_eq_append_getElem (by omega)
            have H2 : Hid (fs.take (k + 1) = fs.take k ++ [fs[k]'(by omega)]) := List.take_succ_eq_append_getElem (by omega)
            have H3 : Hid (es = fs → es[k]'(by omega) = fs[k]'(by omega)) := fun h => by subst h; rfl
            clear hA hB
            generalize es[k]'(by omega) = o at c1 c2 H1 H3
            generalize fs[k]'(by omega) = q at c3 c4 H2 H3
            have hlt' : (k : Int) < (n : Int) := by omega
            cases q4 : (o.1 == q.1)
            · have hne : Hid (decide (es = fs) = false) := by
                show _ = _
                rw [decide_eq_false_iff_not]
                intro h
                have := H3.out h
                rw [this] at q4
                simp at q4
              go_wp2_with (fail)
              go_quiet (fail)
              go_wp2_with (fail)
              rw [hne.out]
              go_ret
              exact ⟨rfl, below_drewN (below_drewN hw0 _) _⟩
            · cases q5 : (o.2 == q.2)
              · have hne : Hid (decide (es = fs) = false) := by
                  show _ = _
                  rw [decide_eq_false_iff_not]
                  intro h
                  have := H3.out h
                  rw [this] at q5
                  simp at q5
                go_wp2_with (fail)
                go_quiet (fail)
                go_wp2_with (fail)
                rw [hne.out]
                go_ret
                exact ⟨rfl, below_drewN (below_drewN hw0 _) _⟩
              · have HE : Hid (es.take (k + 1) = fs.take (k + 1)) := by
                  show _ = _
                  rw [H1.out, H2.out, HT.out]
                  simp at q4 q5
                  congr 2
                  exact Prod.ext q4 q5
                go_wp2_with (fail)
                go_quiet (fail)
                go_wp2_with (fail)
                go_roundw
                case rel => exact ⟨k + 1, _, by omega, by go_num, HE.out, rfl⟩
                case measure => simp [intOf]; omega
          · have hfin : decide (es = fs) = true := by
              have h1 : es.take k = es := List.take_of_length_le (by omega)
              have h2 : fs.take k = fs := List.take_of_length_le (by omega)
              have := HT.out
              rw [h1, h2] at this
              simp [this]
            have hge : ¬ (k : Int) < (n : Int) := by omega
            go_wp2_with (fail)
            go_ret
            exact ⟨rfl, below_drewN hw0 _⟩
      · have q3' : ((n : Int) != (m : Int)) = true := by rw [bne_iff_ne]; omega
        have hD : decide (o1 = o2 ∧ s1 = s2 ∧ es = fs) = false := by
          rw [decide_eq_false_iff_not]
          rintro ⟨_, _, h⟩
          exact q3 (by rw [← hla, ← hlb, h])
        rw [hD]
        clear hD e1 e2
        go_enter Try.func24, Try.ntmps24
        go_wp2_with (fail)
        go_ret
        exact ⟨rfl, hw0⟩
    · have hD : decide (o1 = o2 ∧ s1 = s2 ∧ es = fs) = false := by
        rw [decide_eq_false_iff_not]
        rintro ⟨_, h, _⟩
        simp [h] at q2
      rw [hD]
      clear hD e1
      go_enter Try.func24, Try.ntmps24
      go_wp2_with (fail)
      go_ret
      exact ⟨rfl, hw0⟩
  · have hD : decide (o1 = o2 ∧ s1 = s2 ∧ es = fs) = false := by
      rw [decide_eq_false_iff_not]
      rintro ⟨h, _⟩
      simp [h] at q1
    rw [hD]
    clear hD
    go_enter Try.func24, Try.ntmps24
    go_wp2_with (fail)
    go_ret
    exact ⟨rfl, hw0⟩
end Go.Proofs.Ytgfjgenkpfdofaa
