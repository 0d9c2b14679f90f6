/-
  Take: what it answers, and what it makes of the reader.
-/
import Derived.Test.YtnafklmigndgeaaToldWalk
namespace Go.Proofs.Ytnafklmigndgeaa
open Go.RowKit Plain
/-- The zero reader's cells. -/
def Z35 : Array Value := #[] ++ Array.replicate 62 (.int .u8 0) ++ #[.int .i64 0, .bool false, .bool false]
theorem info35 : (Try.prog.info? 35).map (fun i => (i.zero, i.size)) = some (some (.agg Z35), 65) := by kernel_rfl
theorem zero35 : (∀ w, (zeroValue 35).run Try.prog w = .ok (.agg Z35) w) ∧ (Try.prog.info? 35).map (·.size) = some 65 := zero_of_info info35
theorem Z35_size : Z35.size = 65 := by decide
theorem RdC.zero : RdC Z35 [] false false := by
  refine ⟨Z35_size, by simp, fun i hi => ⟨0, ?_⟩, fun i hi => by simp at hi, by kernel_rfl, by kernel_rfl, by kernel_rfl⟩
  unfold Z35
  rw [Array.getElem?_append_left (by simp; omega)]
  simp [hi]
theorem Z35_one : ∀ v ∈ Z35.toList, v.oneCell' = true := by
  have : Z35.toList.all (·.oneCell') = true := by kernel_rfl
  exact List.all_eq_true.mp this

/-- What Take makes of the reader. -/
def takeR (l : List UInt8) (e d : Bool) (c : UInt8) : List UInt8 × Bool × Bool := if c = 126 then ([], false, false) else addR (l, e, d) c
/-- What Take answers. -/
def takeA (l : List UInt8) (e d : Bool) (c : UInt8) : List UInt8 × Bool × Nat := if c = 126 then toldR l e d else ([], false, 0)

set_option maxRecDepth 100000 in
set_option maxHeartbeats 2000000 in
theorem take_any (b : Nat) (l : List UInt8) (e d : Bool) (c : UInt8) (w : World) (h : Rd w b l e d) :
    Calls Try.prog 18 #[.pointer (some ⟨b, 0, none⟩), .int .u8 (c.toNat : Int)] w fun e' w' => e' = .returned (.tuple #[.string ⟨(takeA l e d c).1.toArray⟩, .bool (takeA l e d c).2.1, errV (takeA l e d c).2.2]) ∧
      Rd w' b (takeR l e d c).1 (takeR l e d c).2.1 (takeR l e d c).2.2 ∧ w.grownBy w' (some b) := by
  have c126 : c = 126 ↔ ((c.toNat : Int) == 126) = true := by
    rw [← UInt8.toNat_inj, beq_iff_eq]; show c.toNat = 126 ↔ _; omega
  by_cases hc : c = 126
  · have hn : ((c.toNat : Int) != 126) = false := by rw [bne, c126.mp hc]; rfl
    have e1 : takeA l e d c = toldR l e d := by simp [takeA, hc]
    have e2 : takeR l e d c = ([], false, false) := by simp [takeR, hc]
    rw [e1, e2]
    clear e1 e2 c126 hc
    obtain ⟨C, hC, hR⟩ := h
    have hst : ∀ n, (storeCells ⟨b, 0, none⟩ Z35.toList).run Try.prog (w.drewN n) = .ok () ((w.drewN n).setRow b Z35) := by
      intro n
      have h1 := run_storeCells_from (P := Try.prog) b 35 Z35.toList 0 C (w.drewN n) (by rw [World.heap_drewN]; exact hC) (by rw [hR.size]; decide) Z35_one
      simpa using h1
    have hz := zero35.1
    have hZ := Z35_size
    go_enter Try.func18, Try.ntmps18
    go_wp2_with (go_at_call 31; refine (told_any b l e d _ ⟨C, hC, hR⟩).mono ?_; rintro e' w' ⟨rfl, n, rfl⟩)
    go_ret3
    exact ⟨rfl, ⟨Z35, setRow_heap (w.drewN n) b C Z35 35 (0, 0) hC, RdC.zero⟩, grownBy_setRow (a := w) (w := w.drewN n) ⟨rfl, rfl, rfl, Nat.le_refl _, fun _ _ _ => rfl⟩ Z35⟩
  · have hn : ((c.toNat : Int) != 126) = true := by
      rw [bne]; cases hq : ((c.toNat : Int) == 126)
      · rfl
      · exact absurd (c126.mpr hq) hc
    have e1 : takeA l e d c = ([], false, 0) := by simp [takeA, hc]
    have e2 : takeR l e d c = addR (l, e, d) c := by simp [takeR, hc]
    rw [e1, e2]
    clear e1 e2 c126 hc
    go_enter Try.func18, Try.ntmps18
    go_wp2_with (go_at_call 30; refine (add_any b l e d c _ h).mono ?_; rintro e' w' ⟨rfl, hR, hg⟩)
    go_ret3
    exact ⟨rfl, hR, hg⟩
end Go.Proofs.Ytnafklmigndgeaa
