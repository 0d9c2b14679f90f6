/-
  list: all hops that there are, rising.
-/
import Derived.Test.YtielnomhdahciaaWaysTo
namespace Go.Proofs.Ytielnomhdahciaa
open Go.RowKit St

def lstF (H : Nat → HP) : Nat → List HP
  | 0 => []
  | n + 1 => if 0 < (H n).far then lstF H n ++ [H n] else lstF H n
theorem lstF_length (H : Nat → HP) : ∀ n, (lstF H n).length ≤ n
  | 0 => Nat.le_refl _
  | n + 1 => by
    have := lstF_length H n
    simp only [lstF]
    split
    · simp; omega
    · omega
def hpC (L : List HP) : List Value := L.flatMap fun h => [.int .i64 h.dst, .int .i64 h.far, .int .i64 h.nxt]
theorem hpC_snoc (L : List HP) (h : HP) : hpC (L ++ [h]) = hpC L ++ [.int .i64 h.dst, .int .i64 h.far, .int .i64 h.nxt] := by simp [hpC]
theorem hpC_get : ∀ (L : List HP) (j : Nat) (h : HP), L[j]? = some h → (hpC L)[j * 3]? = some (.int .i64 h.dst) ∧ (hpC L)[j * 3 + 1]? = some (.int .i64 h.far) ∧ (hpC L)[j * 3 + 2]? = some (.int .i64 h.nxt)
  | [], j, s, h => by simp at h
  | x :: l, 0, s, h => by
    have : x = s := by simpa using h
    subst this
    exact ⟨rfl, rfl, rfl⟩
  | x :: l, j + 1, s, h => by
    have h' : l[j]? = some s := by simpa using h
    obtain ⟨a, b, c⟩ := hpC_get l j s h'
    have e : hpC (x :: l) = .int .i64 x.dst :: .int .i64 x.far :: .int .i64 x.nxt :: hpC l := rfl
    have e1 : (j + 1) * 3 = j * 3 + 3 := by omega
    have e2 : (j + 1) * 3 + 1 = j * 3 + 1 + 3 := by omega
    have e3 : (j + 1) * 3 + 2 = j * 3 + 2 + 3 := by omega
    rw [e, e2, e3, e1]
    simp only [List.getElem?_cons_succ]
    exact ⟨a, b, c⟩
theorem Row.hs {w : World} {v : Value} {L : List HP} (h : Row w 3 v L.length (hpC L)) : ∃ a cap, v = .slice a L.length cap ∧ HsR w a L.length L := by
  rcases h.2 with ⟨rfl, e⟩ | ⟨g, cap, rfl, _⟩
  · rw [e]
    exact ⟨none, 0, rfl, ⟨e, .inl rfl⟩⟩
  · refine ⟨_, cap, rfl, ⟨rfl, .inr ⟨g, 0, rfl, fun j s e => ?_⟩⟩⟩
    obtain ⟨a, b, c⟩ := hpC_get L j s e
    rw [show 0 + j * 3 = j * 3 by omega]
    exact ⟨Row.cell h _ _ a, Row.cell h _ _ b, Row.cell h _ _ c⟩
theorem cells_threeH (w : World) (x y z : Value) (t : TypeId) (g : Nat) (hg : w.heap.size = g) : ∀ (j : Nat) (u : Value), [x, y, z][j]? = some u → (w.alloc (.cells #[x, y, z] t)).cell? ((⟨g, 0, none⟩ : Addr).add j) = some u := by
  subst hg
  intro j u hu
  rw [add_plain, World.cell?_alloc_mark]
  simpa using hu
theorem one_hp (x y z : Int) : ∀ u ∈ [Value.int .i64 x, Value.int .i64 y, Value.int .i64 z], u.oneCell' = true := by simp [Value.oneCell']
theorem infoHop : (Try.prog.info? 73).map (fun i => (i.zero, i.size, i.bytes)) = some (some (.agg #[.int .i64 0, .int .i64 0, .int .i64 0]), 3, 24) := by kernel_rfl

set_option maxRecDepth 100000 in
set_option maxHeartbeats 4000000 in
theorem list_any (H : Nat → HP) (B : Nat) (w : World) (hB : Blk w B (hC H) 104) :
    Calls Try.prog 63 #[.pointer (some ⟨B, 0, none⟩)] w fun e w' => ∃ a cap, e = .returned (.slice a (lstF H 7).length cap) ∧ HsR w' a (lstF H 7).length (lstF H 7) ∧ Below w.heap.size w w' := by
  obtain ⟨i0, hi, hz0, hz1, hz2⟩ := info_parts infoHop
  go_enter Try.func63, Try.ntmps63
  go_wp2_with (fail)
  go_loopw [3, 8] (fun s v wr => ∃ n : Nat, n ≤ 7 ∧ v = .int .i64 n ∧ Row wr 3 s (lstF H n).length (hpC (lstF H n)) ∧ (∀ g, s.ownBlock = some g → w.heap.size ≤ g) ∧ Below w.heap.size w wr) (fun _ v _ => 7 - (intOf v).toNat)
  case atStart => exact ⟨0, by omega, rfl, Row.nil _ _, fun g hg => by simp [Value.ownBlock] at hg, Below.refl _ _⟩
  case round =>
    obtain ⟨n, hn, rfl, hrow, hown, hbel⟩ := hrel
    have HL : Hid _ := lstF_length H n
    have HS : Hid (lstF H (n + 1) = if 0 < (H n).far then lstF H n ++ [H n] else lstF H n) := rfl
    by_cases hn7 : n < 7
    · have hn7' : (n : Int) < 7 := by omega
      obtain ⟨p0, p1, p2⟩ := hC_get H n hn7
      have hBw := hB.below hbel
      have c0 := (hBw.cell (n * 3)).trans p0
      have c1 := (hBw.cell (n * 3 + 1)).trans p1
      have c2 := (hBw.cell (n * 3 + 2)).trans p2
      clear p0 p1 p2 hBw
      obtain ⟨p, hp⟩ : ∃ p, H n = p := ⟨_, rfl⟩
      rw [hp] at c0 c1 c2 HS
      clear hp
      obtain ⟨pd, pf, px⟩ := p
      simp only at c0 c1 c2 HS
      have hba := hbel.alloc hbel.size (.cells #[.int .i64 pd, .int .i64 pf, .int .i64 px] 73)
      have HBA : Hid _ := hba
      have hws : Hid (w.heap.size ≤ wr.heap.size) := hbel.size
      have hrow2 := hrow.alloc (.cells #[.int .i64 pd, .int .i64 pf, .int .i64 px] 73)
      have HOwn : Hid _ := hown
      by_cases hf : 0 < pf
      · rw [if_pos hf] at HS
        obtain ⟨L, hLe⟩ : ∃ L, lstF H n = L := ⟨_, rfl⟩
        rw [hLe] at HS HL hrow2
        have hLl : L.length ≤ n := HL.out
        clear hLe hrow hown hbel hba
        go_wp2_with (at_builtin; go_must (refine wpList_append_row _ rfl (.tmp 16) (.tmp 18) 69 rfl 73 i0 (.agg #[.int .i64 0, .int .i64 0, .int .i64 0]) 3 24 Try.underlying69 hi hz0 hz1 hz2 rfl (by decide) u3 L.length (hpC L) rfl (hrow2.alloc _) _ 1 1 [.int .i64 pd, .int .i64 pf, .int .i64 px] rfl rfl (by decide) (cells_threeH _ _ _ _ _ _ (by simp)) (one_hp _ _ _) (by unfold maxLen; omega) (by omega) ?_))
        intro g' cap' w3 hr3 hg3 hown3
        have HR3 : Hid (Row w3 3 (.slice (some ⟨g', 0, none⟩) (L.length + 1) cap') (L ++ [(⟨pd, pf, px⟩ : HP)]).length (hpC (L ++ [(⟨pd, pf, px⟩ : HP)]))) := by
          show Row _ _ _ _ _
          rw [hpC_snoc, List.length_append]
          exact hr3
        have kb : Below w.heap.size w ((wr.alloc (.cells #[.int .i64 pd, .int .i64 pf, .int .i64 px] 73)).alloc (.cells #[.int .i64 pd, .int .i64 pf, .int .i64 px] 73)) := Below.alloc HBA.out HBA.out.size _
        have HB3 : Hid (Below w.heap.size w w3) := ⟨hg3.os.trans kb.os, hg3.tape.trans kb.tape, hg3.output.trans kb.output, Nat.le_trans kb.size hg3.size, fun i hi => (hg3.block i (Nat.lt_of_lt_of_le hi kb.size) (fun e => by have := HOwn.out i e.symm; omega)).trans (kb.block i hi)⟩
        have HG3 : Hid (∀ g, Value.ownBlock (.slice (some ⟨g', 0, none⟩) (L.length + 1) cap') = some g → w.heap.size ≤ g) := by
          intro g hg
          have hgg : g' = g := by simpa [Value.ownBlock] using hg
          subst hgg
          rcases hown3 with e | e
          · exact HOwn.out _ e
          · have := hws.out
            omega
        clear hr3 hg3 hown3 kb hrow2 c0 c1 c2
        go_wp2_with (fail)
        go_roundw
        case rel => exact ⟨n + 1, by omega, by go_num, by rw [HS.out]; exact HR3.out, HG3.out, HB3.out⟩
        case measure => simp [intOf]; omega
      · rw [if_neg hf] at HS
        have HR2 : Hid _ := hrow2
        clear hrow hown hbel hba hrow2
        go_wp2_with (fail)
        go_roundw
        case rel => exact ⟨n + 1, by omega, by go_num, by rw [HS.out]; exact HR2.out, HOwn.out, HBA.out⟩
        case measure => simp [intOf]; omega
    · have hn7' : ¬ (n : Int) < 7 := by omega
      have hne : n = 7 := by omega
      subst hne
      obtain ⟨a, cap, rfl, hR⟩ := Row.hs hrow
      have HR : Hid _ := hR
      clear hR hrow hown
      go_wp2_with (fail)
      go_ret
      first | exact ⟨a, cap, rfl, HR.out, hbel⟩ | exact ⟨a, ⟨cap, rfl⟩, HR.out, hbel⟩
end Go.Proofs.Ytielnomhdahciaa
