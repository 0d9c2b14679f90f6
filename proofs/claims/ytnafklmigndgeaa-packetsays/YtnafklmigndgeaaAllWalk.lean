/-
  All: what it answers, and what it makes of the reader.
-/
import Derived.Test.YtnafklmigndgeaaTakeWalk
namespace Go.Proofs.Ytnafklmigndgeaa
open Go.RowKit Plain

abbrev RState := List UInt8 × Bool × Bool
/-- One byte. -/
def stepA (a : List (List UInt8) × Nat × RState) (c : UInt8) : List (List UInt8) × Nat × RState :=
  let t := takeA a.2.2.1 a.2.2.2.1 a.2.2.2.2 c
  let r := takeR a.2.2.1 a.2.2.2.1 a.2.2.2.2 c
  if t.2.2 ≠ 0 then (a.1, a.2.1 + 1, r) else if t.2.1 = true then (a.1 ++ [t.1], a.2.1, r) else (a.1, a.2.1, r)
/-- All of them. -/
def allR (st : RState) (l : List UInt8) : List (List UInt8) × Nat × RState := l.foldl stepA ([], 0, st)
def strs (l : List (List UInt8)) : List Value := l.map fun s => Value.string ⟨s.toArray⟩

theorem allR_snoc (st : RState) (l : List UInt8) (c : UInt8) : allR st (l ++ [c]) = stepA (allR st l) c := by simp [allR]
theorem stepA_le (a : List (List UInt8) × Nat × RState) (c : UInt8) : (stepA a c).1.length + (stepA a c).2.1 ≤ a.1.length + a.2.1 + 1 := by
  unfold stepA
  simp only
  split
  · simp only; omega
  · split
    · simp only [List.length_append, List.length_cons, List.length_nil]; omega
    · simp only; omega
theorem foldl_le : ∀ (l : List UInt8) (a : List (List UInt8) × Nat × RState), (l.foldl stepA a).1.length + (l.foldl stepA a).2.1 ≤ a.1.length + a.2.1 + l.length
  | [], a => by simp
  | c :: l, a => by
    have h1 := foldl_le l (stepA a c)
    have h2 := stepA_le a c
    simp only [List.foldl_cons, List.length_cons]
    omega
theorem allR_le (st : RState) (l : List UInt8) : (allR st l).1.length + (allR st l).2.1 ≤ l.length := by
  have := foldl_le l ([], 0, st)
  unfold allR
  simp only [List.length_nil] at this
  omega
theorem info9 : (Try.prog.info? 9).map (fun i => (i.zero, i.size, i.bytes)) = some (some (.string ByteArray.empty), 1, 16) := by kernel_rfl

theorem all_step {w w1 w2 : World} {b : Nat} {v : Value} {o : Obj} {g2 n cap2 : Nat} {l : List UInt8} {e d : Bool} (hbw : b < w.heap.size) (hnew : ∀ k, v.ownBlock = some k → w.heap.size ≤ k) (hR : Rd w1 b l e d) (hg : w.grownBy w1 (some b))
    (hgr : (w1.alloc o).grownBy w2 v.ownBlock) (hown : v.ownBlock = some g2 ∨ w1.heap.size + 1 ≤ g2) :
    (∀ k, Value.ownBlock (.slice (some ⟨g2, 0, none⟩) n cap2) = some k → w.heap.size ≤ k) ∧ Rd w2 b l e d ∧ w.grownBy w2 (some b) := by
  have hs := hg.size
  have hs1 : (w1.alloc o).heap.size = w1.heap.size + 1 := by simp
  have hk : ∀ k, k < w.heap.size → w2.heap[k]? = w1.heap[k]? := fun k hk => by
    rw [hgr.block k (by omega) (fun e => by have := hnew k e.symm; omega)]
    exact Below.heap_alloc w1 o k (by omega)
  refine ⟨fun k hk => ?_, ?_, ⟨hgr.os.trans hg.os, hgr.tape.trans hg.tape, hgr.output.trans hg.output, by have := hgr.size; omega, fun k h1 h2 => (hk k h1).trans (hg.block k h1 h2)⟩⟩
  · have : g2 = k := by simpa [Value.ownBlock] using hk
    rcases hown with h | h
    · have := hnew g2 h; omega
    · omega
  · obtain ⟨C, hC, h2⟩ := hR
    exact ⟨C, by rw [hk b hbw]; exact hC, h2⟩

set_option maxRecDepth 100000 in
set_option maxHeartbeats 2000000 in
theorem all_any (b : Nat) (st : RState) (s : ByteArray) (w : World) (h : Rd w b st.1 st.2.1 st.2.2) (hs : s.size ≤ 100000) :
    Calls Try.prog 15 #[.pointer (some ⟨b, 0, none⟩), .string s] w fun e w' => ∃ v, e = .returned (.tuple #[v, .int .i64 ((allR st s.data.toList).2.1 : Int)]) ∧
      Row w' 1 v (allR st s.data.toList).1.length (strs (allR st s.data.toList).1) ∧ (∀ k, v.ownBlock = some k → w.heap.size ≤ k) ∧ ((allR st s.data.toList).1 = [] → v = .slice none 0 0) ∧
      Rd w' b (allR st s.data.toList).2.2.1 (allR st s.data.toList).2.2.2.1 (allR st s.data.toList).2.2.2.2 ∧ w.grownBy w' (some b) := by
  obtain ⟨i0, hi, hz0, hz1, hz2⟩ := info_parts info9
  have hbw : b < w.heap.size := by
    obtain ⟨C, hC, _⟩ := h
    exact (Array.getElem?_eq_some_iff.1 hC).1
  go_enter Try.func15, Try.ntmps15
  go_wp2
  go_loopw [4, 5, 12] (fun v n i wr => ∃ (k : Nat) (A : List (List UInt8) × Nat × RState), A = allR st (s.data.toList.take k) ∧ k ≤ s.size ∧ i = .int .i64 k ∧ n = .int .i64 (A.2.1 : Int) ∧
      Row wr 1 v A.1.length (strs A.1) ∧ (∀ k, v.ownBlock = some k → w.heap.size ≤ k) ∧ (A.1 = [] → v = .slice none 0 0) ∧ Rd wr b A.2.2.1 A.2.2.2.1 A.2.2.2.2 ∧ w.grownBy wr (some b))
    (fun _ _ i _ => s.size - (intOf i).toNat)
  case atStart => exact ⟨0, _, rfl, Nat.zero_le _, rfl, rfl, Row.nil _ _, fun k hk => by simp [Value.ownBlock] at hk, fun _ => rfl, h, grownBy_refl _ _⟩
  case round =>
    obtain ⟨k, A, hA, hk, rfl, rfl, hrow, hnew, hnil0, hR, hg⟩ := hrel
    have hnil : Hid (A.1 = [] → u4 = .slice none 0 0) := hnil0
    clear hnil0
    have HL : Hid (A.1.length + A.2.1 ≤ k) := by
      have := allR_le st (s.data.toList.take k)
      rw [← hA] at this
      have h2 : (s.data.toList.take k).length ≤ k := List.length_take_le _ _
      exact (by omega : A.1.length + A.2.1 ≤ k)
    have HA : Hid (A = allR st (s.data.toList.take k)) := hA
    clear hA h
    by_cases hlt : k < s.size
    · obtain ⟨t, dn, er, hT⟩ : ∃ t dn er, takeA A.2.2.1 A.2.2.2.1 A.2.2.2.2 s[k] = (t, dn, er) := ⟨_, _, _, rfl⟩
      obtain ⟨R', hR'⟩ : ∃ R', takeR A.2.2.1 A.2.2.2.1 A.2.2.2.2 s[k] = R' := ⟨_, rfl⟩
      have hcall : Calls Try.prog 18 #[.pointer (some ⟨b, 0, none⟩), .int .u8 (s[k].toNat : Int)] wr fun e' w' => e' = .returned (.tuple #[.string ⟨t.toArray⟩, .bool dn, errV er]) ∧
          Row w' 1 u4 A.1.length (strs A.1) ∧ Rd w' b R'.1 R'.2.1 R'.2.2 ∧ w.grownBy w' (some b) := by
        have hq := take_any b A.2.2.1 A.2.2.2.1 A.2.2.2.2 s[k] wr hR
        rw [hT, hR'] at hq
        refine hq.mono fun e' w' ⟨h1, h2, h3⟩ => ⟨h1, hrow.kept h3 (fun j hj => ?_), h2, grownBy_trans hg h3⟩
        have := hnew j hj
        intro e1
        simp at e1
        omega
      have HN0 : (allR st (s.data.toList.take (k + 1)) = if er ≠ 0 then (A.1, A.2.1 + 1, R') else if dn = true then (A.1 ++ [t], A.2.1, R') else (A.1, A.2.1, R')) := by
        have : s.data.toList.take (k + 1) = s.data.toList.take k ++ [s[k]] := take_snoc s k hlt
        rw [this, allR_snoc, ← HA.out]
        unfold stepA
        simp only [hT, hR']
      have HN : Hid _ := HN0
      clear HN0
      have hn : A.2.1 ≤ 100000 := by have := HL.out; omega
      clear hT hR' hrow hR hg
      by_cases her : er = 0
      · subst her
        have e0 : errV 0 = .nilIface := rfl
        rw [e0] at hcall
        clear e0
        cases dn
        · go_wp2_with (go_at_call 18; refine hcall.mono ?_; rintro e w1 ⟨rfl, hrow1, hR1, hg1⟩)
          go_roundw
          case rel => exact ⟨k + 1, _, HN.out.symm, by omega, by go_num, rfl, hrow1, hnew, hnil.out, hR1, hg1⟩
          case measure => simp [intOf]; omega
        · have m1 : A.1.length + 1 ≤ maxLen := by have := HL.out; unfold maxLen; omega
          have b1 : (A.1.length + 1) * 16 ≤ 140737488355328 := by have := HL.out; omega
          go_wp2_with (first
            | (go_at_call 18; refine hcall.mono ?_; rintro e w1 ⟨rfl, hrow1, hR1, hg1⟩)
            | (at_builtin; go_must (refine wpList_append_row _ rfl (.tmp 29) (.tmp 31) 22 rfl 9 i0 (.string ByteArray.empty) 1 16 Try.underlying22 hi hz0 hz1 hz2 rfl (by decide) u4 A.1.length (strs A.1) rfl (Row.alloc (by assumption) _) _ 1 1 [.string ⟨t.toArray⟩] rfl rfl (by decide) (cells_one _ _ _) (one_string _) m1 b1 ?_)))
          intro g2 cap2 w2 hr2 hgr2 hown2
          have hS := all_step (n := A.1.length + 1) (cap2 := cap2) hbw hnew hR1 hg1 hgr2 hown2
          clear hgr2 hown2 hrow1 hR1 hg1
          go_wp2
          go_roundw
          case rel => exact ⟨k + 1, (A.1 ++ [t], A.2.1, R'), by rw [HN.out]; rfl, by omega, by go_num, rfl, by simpa [strs] using hr2, hS.1, fun h => by simp at h, hS.2.1, hS.2.2⟩
          case measure => simp [intOf]; omega
      · have e0 : errV er = .iface 64 (.int .i64 (er : Int)) := by simp [errV, her]
        rw [e0] at hcall
        clear e0
        go_wp2_with (go_at_call 18; refine hcall.mono ?_; rintro e w1 ⟨rfl, hrow1, hR1, hg1⟩)
        go_roundw
        case rel => exact ⟨k + 1, (A.1, A.2.1 + 1, R'), by rw [HN.out, if_pos her], by omega, by go_num, by go_num, hrow1, hnew, hnil.out, hR1, hg1⟩
        case measure => simp [intOf]; omega
    · go_wp2
      have hA : allR st s.data.toList = A := by
        rw [HA.out, List.take_of_length_le]
        show s.size ≤ k
        omega
      rw [hA]
      go_ret2
      exact ⟨u4, rfl, hrow, hnew, hnil.out, hR, hg⟩
end Go.Proofs.Ytnafklmigndgeaa
