/-
  A new base of states.
-/
import Derived.Test.YtgfjgenkpfdofaaFloodSee
namespace Go.Proofs.Ytgfjgenkpfdofaa
open Go.RowKit St

theorem infoMapS : (Try.prog.info? 66).map (fun i => (i.zero, i.size, i.bytes)) = some (some (.map none), 1, 8) := by kernel_rfl
theorem cells_oneN (w : World) (x : Value) (t : TypeId) (g : Nat) (hg : w.heap.size = g) : ∀ (j : Nat) (u : Value), [x][j]? = some u → (w.alloc (.cells #[x] t)).cell? ((⟨g, 0, none⟩ : Addr).add j) = some u := by
  subst hg
  exact cells_one w x t
theorem one_map (b : Option Nat) : ∀ u ∈ [Value.map b], u.oneCell' = true := by simp [Value.oneCell']
theorem mk_map (W : World) : (Instr.makeMap 66 none).run Try.prog W = .ok (.map (some W.heap.size)) (W.alloc (.map #[] 0)) := rfl
theorem zeroBase (w : World) : (zeroValue 69).run Try.prog w = .ok (.agg #[.map none, .slice none 0 0]) w := by kernel_rfl
/-- A base under way. -/
structure NewR (w wr : World) (v : Value) (bs : List Nat) : Prop where
  blk : wr.heap[w.heap.size + 1]? = some (.cells #[.map (some w.heap.size), v] 69 (0, 0))
  row : Row wr 1 v bs.length (bs.map fun b => Value.map (some b))
  km : SMap wr w.heap.size 0 (fun _ => none)
  om : ∀ b ∈ bs, SMap wr b 0 (fun _ => none)
  ge : ∀ b ∈ bs, w.heap.size + 2 ≤ b
  own : ∀ g, v.ownBlock = some g → w.heap.size + 2 ≤ g ∧ g ∉ bs
  nd : bs.Nodup
  bel : Below w.heap.size w wr
theorem NewR.step {w wr w3 : World} {v v' : Value} {bs : List Nat} {o : Obj} {g' cap' : Nat} (h : NewR w wr v bs) (hg3 : ((wr.alloc (.map #[] 0)).alloc o).grownBy w3 v.ownBlock) (hv : v' = .slice (some ⟨g', 0, none⟩) (bs.length + 1) cap')
    (hr : Row w3 1 v' (bs.length + 1) ((bs.map fun b => Value.map (some b)) ++ [.map (some wr.heap.size)])) (ho : v.ownBlock = some g' ∨ wr.heap.size + 2 ≤ g') : NewR w (w3.setCell ⟨w.heap.size + 1, 1, none⟩ v') v' (bs ++ [wr.heap.size]) := by
  have lB : w.heap.size + 1 < wr.heap.size := (Array.getElem?_eq_some_iff.1 h.blk).1
  have s2 : ((wr.alloc (.map #[] 0)).alloc o).heap.size = wr.heap.size + 2 := by simp
  have b2 : Below wr.heap.size wr ((wr.alloc (.map #[] 0)).alloc o) := (below_alloc _ _).alloc (by simp) _
  have hs3 := hg3.size
  have hK : ∀ i, i < wr.heap.size → v.ownBlock ≠ some i → w3.heap[i]? = wr.heap[i]? := fun i hi hne => (hg3.block i (by omega) (fun e => hne e.symm)).trans (b2.block i hi)
  have hS : ∀ i, i ≠ w.heap.size + 1 → (w3.setCell ⟨w.heap.size + 1, 1, none⟩ v').heap[i]? = w3.heap[i]? := fun i hi => Below.heap_setCell _ _ _ i hi
  have hB3 : w3.heap[w.heap.size + 1]? = some (.cells #[.map (some w.heap.size), v] 69 (0, 0)) := (hK _ lB (fun e => by have := (h.own _ e).1; omega)).trans h.blk
  have hblt : ∀ b ∈ bs, b < wr.heap.size := fun b hb => (h.om b hb).lt
  have hg' : w.heap.size + 2 ≤ g' ∧ g' ∉ bs ∧ g' ≠ wr.heap.size := by
    rcases ho with e | e
    · have := h.own g' e
      have h2 := h.row.lt g' e
      exact ⟨this.1, this.2, by omega⟩
    · exact ⟨by omega, fun hm => by have := hblt g' hm; omega, by omega⟩
  refine ⟨?_, ?_, ?_, ?_, ?_, ?_, ?_, ?_⟩
  · have s := setRow_heap w3 (w.heap.size + 1) #[.map (some w.heap.size), v] (#[.map (some w.heap.size), v].setIfInBounds 1 v') 69 (0, 0) hB3
    rw [← setCell_eq_setRow w3 (w.heap.size + 1) 1 _ _ (0, 0) _ hB3] at s
    exact s
  · rw [List.length_append, List.map_append]
    refine hr.keep (by simp) (fun k hk => hS k ?_)
    rw [hv] at hk
    have : g' = k := by simpa [Value.ownBlock] using hk
    omega
  · refine h.km.keep ((hS _ (by omega)).trans (hK _ h.km.lt (fun e => by have := (h.own _ e).1; omega)))
  · intro b hb
    rcases List.mem_append.1 hb with hb | hb
    · have h1 := h.ge b hb
      exact (h.om b hb).keep ((hS b (by omega)).trans (hK b (hblt b hb) (fun e => (h.own b e).2 hb)))
    · have : b = wr.heap.size := by simpa using hb
      subst this
      refine (SMap.made wr).keep ((hS _ (by omega)).trans ((hg3.block _ (by omega) (fun e => ?_)).trans ?_))
      · have := h.row.lt _ e.symm
        omega
      · exact Below.heap_alloc _ _ _ (by simp)
  · intro b hb
    rcases List.mem_append.1 hb with hb | hb
    · exact h.ge b hb
    · have : b = wr.heap.size := by simpa using hb
      omega
  · intro g hg
    rw [hv] at hg
    have : g' = g := by simpa [Value.ownBlock] using hg
    subst this
    refine ⟨hg'.1, fun hm => ?_⟩
    rcases List.mem_append.1 hm with hm | hm
    · exact hg'.2.1 hm
    · exact hg'.2.2 (by simpa using hm)
  · rw [List.nodup_append]
    refine ⟨h.nd, by simp, fun a ha b hb => ?_⟩
    have : b = wr.heap.size := by simpa using hb
    have := hblt a ha
    omega
  · have b3 : Below w.heap.size w w3 := ⟨hg3.os.trans (b2.os.trans h.bel.os), hg3.tape.trans (b2.tape.trans h.bel.tape), hg3.output.trans (b2.output.trans h.bel.output), by have := h.bel.size; omega, fun i hi => (hK i (by omega) (fun e => by have := (h.own i e).1; omega)).trans (h.bel.block i hi)⟩
    exact b3.setCell (by show _ ≤ w.heap.size + 1; omega) _
/-- A base that is made is a base. -/
theorem NewR.fb {w wr : World} {v : Value} {bs : List Nat} (h : NewR w wr v bs) (h1 : 0 < bs.length) (h3 : bs.length ≤ 3) : ∃ g cap, FB wr (w.heap.size + 1) { bm := w.heap.size, g := g, cap := cap, bs := bs } 0 (fun _ => none) (fun _ _ => none) := by
  rcases h.row.2 with ⟨_, e⟩ | ⟨g, cap, e, _⟩
  · omega
  · have hg := h.own g (by rw [e]; rfl)
    have hb := h.blk
    have hr := h.row
    rw [e] at hb hr
    refine ⟨g, cap, hb, hr, h.km, fun i b e2 => h.om b (List.mem_of_getElem? e2), h3, ⟨by show w.heap.size ≠ w.heap.size + 1; omega, by show g ≠ w.heap.size + 1; omega, by show w.heap.size ≠ g; omega, fun b hb2 => ?_⟩, h.nd⟩
    have h4 := h.ge b hb2
    exact ⟨by omega, fun e3 => hg.2 (by rw [← show b = g from e3]; exact hb2), by show b ≠ w.heap.size; omega⟩

set_option maxRecDepth 100000 in
set_option maxHeartbeats 4000000 in
theorem new_bad (p : Int) (w : World) (hp : p < 1 ∨ 3 < p) :
    Calls Try.prog 6 #[.int .i64 p] w fun e w' => e = .returned (.tuple #[.pointer none, errV 1]) ∧ w = w' := by
  have E1 : Hid (errV 1 = .iface 64 (.int .i64 1)) := rfl
  by_cases h1 : p < 1
  · clear hp
    go_enter Try.func6, Try.ntmps6
    go_wp2_with (fail)
    rw [E1.out]
    go_ret2
    exact ⟨rfl, rfl⟩
  · have h3 : 3 < p := by omega
    clear hp
    go_enter Try.func6, Try.ntmps6
    go_wp2_with (fail)
    rw [E1.out]
    go_ret2
    exact ⟨rfl, rfl⟩

set_option maxRecDepth 100000 in
set_option maxHeartbeats 4000000 in
theorem new_ok (p : Nat) (w : World) (hp : 1 ≤ p ∧ p ≤ 3) :
    Calls Try.prog 6 #[.int .i64 (p : Int)] w fun e w' => e = .returned (.tuple #[.pointer (some ⟨w.heap.size + 1, 0, none⟩), .nilIface]) ∧ ∃ v bs, NewR w w' v bs ∧ bs.length = p := by
  obtain ⟨i0, hi, hz0, hz1, hz2⟩ := info_parts infoMapS
  have h1 : ¬ ((p : Int) < 1) := by omega
  have h3 : ¬ (3 < (p : Int)) := by omega
  obtain ⟨W1, hW1⟩ : ∃ W1, (w.alloc (.map #[] 0)).alloc (.cells #[.map (some w.heap.size), .slice none 0 0] 69) = W1 := ⟨_, rfl⟩
  have hN : NewR w W1 (.slice none 0 0) [] := by
    rw [← hW1]
    refine ⟨?_, Row.nil _ 1, (SMap.made w).alloc _, fun b hb => by simp at hb, fun b hb => by simp at hb, fun g hg => by simp [Value.ownBlock] at hg, List.nodup_nil, (below_alloc _ _).alloc (by simp) _⟩
    have := heap_alloc_new (w.alloc (.map #[] 0)) (.cells #[.map (some w.heap.size), .slice none 0 0] 69)
    simpa using this
  have HW : Hid _ := hW1
  have hmk : ∀ W : World, (Instr.makeMap 66 none).run Try.prog W = .ok (.map (some W.heap.size)) (W.alloc (.map #[] 0)) := fun W => mk_map W
  have hzb := zeroBase
  clear hW1
  go_enter Try.func6, Try.ntmps6
  go_wp2_with (fail)
  rw [HW.out]
  go_loopw [16] (fun i wr => ∃ (j : Nat) (v : Value) (bs : List Nat), j ≤ p ∧ i = .int .i64 j ∧ bs.length = j ∧ NewR w wr v bs) (fun i _ => p - (intOf i).toNat)
  case atStart => exact ⟨0, _, [], Nat.zero_le _, rfl, rfl, hN⟩
  case round =>
    clear hN
    obtain ⟨j, v, bs, hj, rfl, hl, hR⟩ := hrel
    by_cases hlt : j < p
    · have hlt' : (j : Int) < (p : Int) := by omega
      have c1 : wr.cell? ⟨w.heap.size + 1, 1, none⟩ = some v := cell_of_row wr _ 1 _ _ (0, 0) hR.blk
      have lB : w.heap.size + 1 < wr.heap.size := World.block_lt_of_cell? wr _ c1
      have hrow := hR.row
      rw [hl] at hrow
      have HL : Hid _ := hl
      have HR : Hid (NewR w wr v bs) := hR
      clear hR hl
      go_wp2_with (at_builtin; go_must (refine wpList_append_row _ rfl (.tmp 22) (.tmp 24) 67 rfl 66 i0 (.map none) 1 8 Try.underlying67 hi hz0 hz1 hz2 rfl (by decide) v j _ rfl ((hrow.alloc _).alloc _) _ 1 1 [.map (some wr.heap.size)] rfl rfl (by decide) (cells_oneN _ _ _ _ (by simp)) (one_map _) (by unfold maxLen; omega) (by omega) ?_))
      intro g' cap' w3 hr3 hg3 ho3
      have hB3 : w3.heap[w.heap.size + 1]? = some (.cells #[.map (some w.heap.size), v] 69 (0, 0)) := by
        refine (hg3.block _ (by simp; omega) (fun e => ?_)).trans ((((below_alloc wr (.map #[] 0)).alloc (by simp) _).block _ lB).trans HR.out.blk)
        have := (HR.out.own _ e.symm).1
        omega
      have c3 : w3.cell? ⟨w.heap.size + 1, 1, none⟩ = some v := cell_of_row w3 _ 1 _ _ (0, 0) hB3
      have f3 := frozen_of_row w3 (w.heap.size + 1) 1 _ _ hB3
      have l3 : w.heap.size + 1 < w3.heap.size := World.block_lt_of_cell? w3 _ c3
      have HS : Hid (NewR w (w3.setCell ⟨w.heap.size + 1, 1, none⟩ (.slice (some ⟨g', 0, none⟩) (j + 1) cap')) (.slice (some ⟨g', 0, none⟩) (j + 1) cap') (bs ++ [wr.heap.size])) := by
        refine HR.out.step hg3 (by rw [HL.out]) (by rw [HL.out]; exact hr3) ?_
        rcases ho3 with e | e
        · exact .inl e
        · right; simpa using e
      clear hr3 hg3 ho3 hB3 hrow
      go_wp2_with (fail)
      go_roundw
      case rel => exact ⟨j + 1, _, _, by omega, by go_num, by simp [HL.out], HS.out⟩
      case measure => simp [intOf]; omega
    · have hjn : j = p := by omega
      subst hjn
      have HR : Hid (∃ v bs, NewR w wr v bs ∧ bs.length = j) := ⟨v, bs, hR, hl⟩
      clear hR hl
      go_wp2_with (fail)
      go_ret2
      exact ⟨rfl, HR.out⟩
end Go.Proofs.Ytgfjgenkpfdofaa
