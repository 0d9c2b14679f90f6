/-
  The plain mathematics of frames: what is escaped, and a frame's bytes.
-/
import Derived.Test.YtnafklmigndgeaaPlain
namespace Go.Proofs.Ytnafklmigndgeaa.Plain
open Go.RowKit

/-- A byte that is escaped. -/
def isEsc (c : UInt8) : Bool := c == 126 || c == 125 || decide (c < 32)
def escB (c : UInt8) : List UInt8 := if isEsc c then [125, c ^^^ 32] else [c]
def escL (l : List UInt8) : List UInt8 := l.flatMap escB
def sumLo (l : List UInt8) : UInt8 := UInt8.ofNat (sum l % 256)
def sumHi (l : List UInt8) : UInt8 := UInt8.ofNat (sum l / 256)
def withSum (l : List UInt8) : List UInt8 := l ++ [sumLo l, sumHi l]
def frameL (l : List UInt8) : List UInt8 := 126 :: (escL (withSum l) ++ [126])

theorem sumLo_nat (l : List UInt8) : ((sumLo l).toNat : Int) = ((sum l : Nat) : Int) % 256 := by
  have := sum_lt l
  unfold sumLo
  rw [UInt8.toNat_ofNat_of_lt' (by show sum l % 256 < 256; omega)]
  omega
theorem sumHi_nat (l : List UInt8) : ((sumHi l).toNat : Int) = ((sum l : Nat) : Int) / 256 := by
  have := sum_lt l
  unfold sumHi
  rw [UInt8.toNat_ofNat_of_lt' (by show sum l / 256 < 256; omega)]
  omega
theorem escL_snoc (l : List UInt8) (c : UInt8) : escL (l ++ [c]) = escL l ++ escB c := by simp [escL]
theorem escB_le (c : UInt8) : (escB c).length ≤ 2 := by unfold escB; split <;> simp
theorem escL_le : ∀ l : List UInt8, (escL l).length ≤ 2 * l.length
  | [] => by simp [escL]
  | c :: l => by
    have := escL_le l
    have h := escB_le c
    simp only [escL, List.flatMap_cons, List.length_append, List.length_cons] at this ⊢
    omega
theorem withSum_length (l : List UInt8) : (withSum l).length = l.length + 2 := by simp [withSum]
theorem isEsc_iff (c : UInt8) : isEsc c = true ↔ (c.toNat : Int) = 126 ∨ (c.toNat : Int) = 125 ∨ (c.toNat : Int) < 32 := by
  unfold isEsc
  simp only [Bool.or_eq_true, beq_iff_eq, decide_eq_true_eq, UInt8.lt_iff_toNat_lt]
  have h1 : c = 126 ↔ (c.toNat : Int) = 126 := by
    rw [← UInt8.toNat_inj]; show c.toNat = 126 ↔ _; omega
  have h2 : c = 125 ↔ (c.toNat : Int) = 125 := by
    rw [← UInt8.toNat_inj]; show c.toNat = 125 ↔ _; omega
  rw [h1, h2]
  show (_ ∨ _) ∨ c.toNat < 32 ↔ _
  omega
theorem xor32 (c : UInt8) : bits .xor .u8 (c.toNat : Int) 32 = ((c ^^^ 32).toNat : Int) := by
  have := c.toNat_lt
  have e := u8_xor_nat c.toNat 32 (by omega) (by omega)
  rw [UInt8.toNat_xor]
  exact e
end Go.Proofs.Ytnafklmigndgeaa.Plain
