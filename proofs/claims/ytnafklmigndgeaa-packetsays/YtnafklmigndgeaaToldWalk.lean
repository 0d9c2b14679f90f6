/-
  What the reader tells at a flag.
-/
import Derived.Test.YtnafklmigndgeaaReaderWalk
namespace Go.Proofs.Ytnafklmigndgeaa
open Go.RowKit Plain

/-- An error's value by its number. -/
def errV (k : Nat) : Value := if k = 0 then .nilIface else .iface 64 (.int .i64 (k : Int))
/-- What is told at a flag: what is carried, whether something is done, the error's number. -/
def toldR (l : List UInt8) (e d : Bool) : List UInt8 × Bool × Nat :=
  if d = true ∨ e = true then ([], true, 4)
  else if l.length = 0 then ([], false, 0)
  else if l.length < 2 then ([], true, 4)
  else if (Plain.sum (l.take (l.length - 2)) : Int) = ((l.getD (l.length - 2) 0).toNat : Int) + 256 * ((l.getD (l.length - 1) 0).toNat : Int) then (l.take (l.length - 2), true, 0)
  else ([], true, 5)
theorem sum_q (s : ByteArray) (w : World) (hs : s.size ≤ maxLen) :
    Calls Try.prog 13 #[.string s] w fun e w' => e = .returned (.int .i64 (Plain.sum s.data.toList : Nat)) ∧ w' = w := (sum_any s w hs).mono fun _ _ ⟨a, b⟩ => ⟨a, b.symm⟩
theorem wrapsum (a b : UInt8) : wrap64 (wrap64 (a.toNat : Int) + wrap64 (256 * wrap64 (b.toNat : Int))) = (a.toNat : Int) + 256 * (b.toNat : Int) := by
  have ha := a.toNat_lt
  have hb := b.toNat_lt
  rw [IntWalk.wrap64_in (a.toNat : Int) ⟨by omega, by omega⟩, IntWalk.wrap64_in (b.toNat : Int) ⟨by omega, by omega⟩, IntWalk.wrap64_in (256 * (b.toNat : Int)) ⟨by omega, by omega⟩, IntWalk.wrap64_in _ ⟨by omega, by omega⟩]
theorem toldR_bad (l : List UInt8) (h2 : ¬ l.length < 2)
    (hq : (((Plain.sum (l.take (l.length - 2)) : Nat) : Int) != wrap64 (wrap64 ((l[l.length - 2]'(by omega)).toNat : Int) + wrap64 (256 * wrap64 ((l[l.length - 1]'(by omega)).toNat : Int)))) = true) : toldR l false false = ([], true, 5) := by
  rw [wrapsum] at hq
  have hq' : ¬ ((Plain.sum (l.take (l.length - 2)) : Nat) : Int) = ((l[l.length - 2]'(by omega)).toNat : Int) + 256 * ((l[l.length - 1]'(by omega)).toNat : Int) := by simpa using hq
  have e1 : l.getD (l.length - 2) 0 = l[l.length - 2]'(by omega) := by simp [show l.length - 2 < l.length by omega]
  have e2 : l.getD (l.length - 1) 0 = l[l.length - 1]'(by omega) := by simp [show l.length - 1 < l.length by omega]
  unfold toldR
  rw [if_neg (by simp), if_neg (by omega), if_neg h2, e1, e2, if_neg hq']
theorem toldR_good (l : List UInt8) (h2 : ¬ l.length < 2)
    (hq : (((Plain.sum (l.take (l.length - 2)) : Nat) : Int) != wrap64 (wrap64 ((l[l.length - 2]'(by omega)).toNat : Int) + wrap64 (256 * wrap64 ((l[l.length - 1]'(by omega)).toNat : Int)))) = false) : toldR l false false = (l.take (l.length - 2), true, 0) := by
  rw [wrapsum] at hq
  have hq' : ((Plain.sum (l.take (l.length - 2)) : Nat) : Int) = ((l[l.length - 2]'(by omega)).toNat : Int) + 256 * ((l[l.length - 1]'(by omega)).toNat : Int) := by simpa using hq
  have e1 : l.getD (l.length - 2) 0 = l[l.length - 2]'(by omega) := by simp [show l.length - 2 < l.length by omega]
  have e2 : l.getD (l.length - 1) 0 = l[l.length - 1]'(by omega) := by simp [show l.length - 1 < l.length by omega]
  unfold toldR
  rw [if_neg (by simp), if_neg (by omega), if_neg h2, e1, e2, if_pos hq']
theorem arrayLen33 : Try.prog.arrayLen 33 = 62 := by kernel_rfl
theorem underlying33' : Try.prog.underlying 33 = some (.array (Try.prog.arrayLen 33) (Try.prog.elem 33)) := by kernel_rfl
theorem sizeOf33 (w : World) : (sizeOf (Try.prog.elem 33)).run Try.prog w = .ok 1 w := by kernel_rfl

set_option maxRecDepth 100000 in
set_option maxHeartbeats 2000000 in
theorem told_any (b : Nat) (l : List UInt8) (e d : Bool) (w : World) (h : Rd w b l e d) :
    Calls Try.prog 31 #[.pointer (some ⟨b, 0, none⟩)] w fun e' w' => e' = .returned (.tuple #[.string ⟨(toldR l e d).1.toArray⟩, .bool (toldR l e d).2.1, errV (toldR l e d).2.2]) ∧ ∃ n, w' = w.drewN n := by
  obtain ⟨C, hC, hR⟩ := h
  have hlen := hR.len
  have hcl : ∀ i, w.cell? ⟨b, i, none⟩ = C[i]? := fun i => cell_of_row w b i C 35 (0, 0) hC
  have hmany : w.cell? ⟨b, 62, none⟩ = some (.int .i64 (l.length : Int)) := (hcl 62).trans hR.many
  have hesc : w.cell? ⟨b, 63, none⟩ = some (.bool e) := (hcl 63).trans hR.esc
  have hbad : w.cell? ⟨b, 64, none⟩ = some (.bool d) := (hcl 64).trans hR.bad
  have hbody : ∀ i (h : i < l.length), w.cell? ⟨b, i, none⟩ = some (.int .u8 (l[i].toNat : Int)) := fun i h => (hcl i).trans (hR.body i h)
  clear hcl hC hR
  by_cases hd : d = true ∨ e = true
  · have ht : toldR l e d = ([], true, 4) := by simp [toldR, hd]
    rw [ht]
    clear ht hbody
    rcases hd with rfl | rfl
    · go_enter Try.func31, Try.ntmps31
      go_wp2
      go_ret3
      exact ⟨rfl, 0, rfl⟩
    · cases d
      · go_enter Try.func31, Try.ntmps31
        go_wp2
        go_ret3
        exact ⟨rfl, 0, rfl⟩
      · go_enter Try.func31, Try.ntmps31
        go_wp2
        go_ret3
        exact ⟨rfl, 0, rfl⟩
  · obtain ⟨rfl, rfl⟩ : d = false ∧ e = false := by cases d <;> cases e <;> simp_all
    by_cases h0 : l.length = 0
    · have ht : toldR l false false = ([], false, 0) := by simp [toldR, h0]
      rw [ht]
      have h0' : ((l.length : Int) == 0) = true := by simp [h0]
      have H0 : Hid (l.length = 0) := h0
      clear ht hbody h0 hd
      go_enter Try.func31, Try.ntmps31
      go_wp2
      go_ret3
      exact ⟨rfl, 0, rfl⟩
    · have h0' : ((l.length : Int) == 0) = false := by rw [beq_eq_false_iff_ne]; omega
      by_cases h2 : l.length < 2
      · have ht : toldR l false false = ([], true, 4) := by simp [toldR, h0, h2]
        rw [ht]
        clear ht hbody hd
        go_enter Try.func31, Try.ntmps31
        go_wp2
        go_ret3
        exact ⟨rfl, 0, rfl⟩
      · have hsl : ∀ W : World, (Instr.sliceAt 33 (.pointer (some ⟨b, 0, none⟩)) none (some (.int .i64 ((l.length : Int) - 2))) none).run Try.prog W = .ok (.slice (some ⟨b, 0, none⟩) (l.length - 2) 62) W := by
          intro W
          rw [run_sliceAt_array_h W 33 ⟨b, 0, none⟩ underlying33' .i64 _ (by omega) (by rw [arrayLen33]; omega), sizeOf33, arrayLen33]
          have e1 : ((l.length : Int) - 2).toNat = l.length - 2 := by omega
          simp [slicedAt, Result.andThen, e1, add_plain]
        have hcv : (convert 62 9 (.slice (some ⟨b, 0, none⟩) (l.length - 2) 62)).run Try.prog w = .ok (.string ⟨(l.take (l.length - 2)).toArray⟩) w := by
          have hl2 : (l.take (l.length - 2)).length = l.length - 2 := by simp
          have := run_convert_bytes_back (P := Try.prog) w 62 9 5 ⟨b, 0, none⟩ 62 (l.take (l.length - 2)) Try.underlying62 Try.underlying5 Try.underlying9 (fun j hj => by
            rw [add_plain, hbody j (by omega)]
            simp)
          rw [hl2] at this
          exact this
        have hA := hbody (l.length - 2) (by omega)
        have hB := hbody (l.length - 1) (by omega)
        have tA : (((l.length : Int) - 2).toNat) = l.length - 2 := by omega
        have tB : (((l.length : Int) - 2 + 1).toNat) = l.length - 1 := by omega
        have hS : (ByteArray.mk (l.take (l.length - 2)).toArray).size ≤ maxLen := by
          show (l.take (l.length - 2)).toArray.size ≤ maxLen
          unfold maxLen; simp; omega
        go_enter Try.func31, Try.ntmps31
        go_wp2
        go_quiet ((go_at_call 13; exact Calls.quiet_of_same (sum_q _ _ hS)))
        go_wp2
        · have hq := toldR_bad l h2 (by assumption)
          rw [hq]
          go_ret3
          exact ⟨rfl, _, rfl⟩
        · have hq := toldR_good l h2 (by assumption)
          rw [hq]
          go_ret3
          exact ⟨rfl, _, rfl⟩

end Go.Proofs.Ytnafklmigndgeaa
