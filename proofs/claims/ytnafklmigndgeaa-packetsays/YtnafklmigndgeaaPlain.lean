/-
  The plain mathematics of the sum of bytes: of two texts that differ in one byte the sums differ.
  No condition; nothing of the program is imported.
-/
import Derived.WalkKit
namespace Go.Proofs.Ytnafklmigndgeaa.Plain
open Go.RowKit

theorem i64_xor_nat (a b : Nat) (ha : a < 65536) (hb : b < 65536) : bits .xor .i64 (a : Int) (b : Int) = ((a ^^^ b : Nat) : Int) := by
  have h : a ^^^ b < 65536 := Nat.xor_lt_two_pow (n := 16) ha hb
  have e : ∀ n : Nat, n < 65536 → (BitVec.ofInt 64 (n : Int)).toNat = n := by
    intro n hn
    rw [BitVec.toNat_ofInt]
    simp; omega
  have e2 : (BitVec.ofInt 64 (a : Int) ^^^ BitVec.ofInt 64 (b : Int)).toNat = a ^^^ b := by
    rw [BitVec.toNat_xor, e a ha, e b hb]
  show IntKind.i64.wrap ((BitVec.ofInt 64 (a : Int) ^^^ BitVec.ofInt 64 (b : Int)).toNat : Int) = _
  rw [e2, IntKind.wrap_i64]
  omega

/-- One of the eight turns. -/
def turn (x : Nat) : Nat := if x % 2 = 1 then x / 2 ^^^ 33800 else x / 2
def turns : Nat → Nat → Nat
  | 0, x => x
  | n + 1, x => turns n (turn x)
/-- A byte. -/
def byteIn (x : Nat) (c : UInt8) : Nat := turns 8 (x ^^^ c.toNat)
def reg (l : List UInt8) : Nat := l.foldl byteIn 65535
def sum (l : List UInt8) : Nat := reg l ^^^ 65535

theorem xor_lt (a b : Nat) (ha : a < 65536) (hb : b < 65536) : a ^^^ b < 65536 := Nat.xor_lt_two_pow (n := 16) ha hb
theorem u8_lt (c : UInt8) : c.toNat < 65536 := by have := c.toNat_lt; omega
theorem turn_lt (x : Nat) (h : x < 65536) : turn x < 65536 := by
  unfold turn
  split
  · exact xor_lt _ _ (by omega) (by omega)
  · omega
theorem turns_lt : ∀ n x, x < 65536 → turns n x < 65536
  | 0, _, h => h
  | n + 1, x, h => turns_lt n _ (turn_lt x h)
theorem turns_succ : ∀ n x, turns (n + 1) x = turn (turns n x)
  | 0, _ => rfl
  | n + 1, x => by rw [turns, turns_succ n (turn x)]; rfl
theorem byteIn_lt (x : Nat) (c : UInt8) (h : x < 65536) : byteIn x c < 65536 := turns_lt 8 _ (xor_lt _ _ h (u8_lt c))
theorem foldl_lt : ∀ (l : List UInt8) x, x < 65536 → l.foldl byteIn x < 65536
  | [], _, h => h
  | c :: l, x, h => foldl_lt l _ (byteIn_lt x c h)
theorem reg_lt (l : List UInt8) : reg l < 65536 := foldl_lt l _ (by omega)
theorem sum_lt (l : List UInt8) : sum l < 65536 := xor_lt _ _ (reg_lt l) (by omega)
theorem reg_snoc (l : List UInt8) (c : UInt8) : reg (l ++ [c]) = byteIn (reg l) c := by simp [reg]

/-- A turn can be turned back: the highest bit says whether it was odd. -/
theorem turn_inj (x y : Nat) (hx : x < 65536) (hy : y < 65536) (h : turn x = turn y) : x = y := by
  have key : ∀ z : Nat, z < 32768 → 32768 ≤ z ^^^ 33800 := by
    intro z hz
    apply Decidable.byContradiction
    intro hlt
    have h1 : z ^^^ 33800 < 2 ^ 15 := by omega
    have h2 : z ^^^ (z ^^^ 33800) < 2 ^ 15 := Nat.xor_lt_two_pow (by omega) h1
    rw [← Nat.xor_assoc, Nat.xor_self, Nat.zero_xor] at h2
    omega
  have inj : ∀ a b : Nat, a ^^^ 33800 = b ^^^ 33800 → a = b := by
    intro a b e
    have := congrArg (· ^^^ 33800) e
    simpa [Nat.xor_assoc] using this
  unfold turn at h
  have kx := key (x / 2) (by omega)
  have ky := key (y / 2) (by omega)
  split at h <;> split at h
  · have := inj _ _ h; omega
  · omega
  · omega
  · omega
theorem turns_inj : ∀ n x y, x < 65536 → y < 65536 → turns n x = turns n y → x = y
  | 0, _, _, _, _, h => h
  | n + 1, x, y, hx, hy, h => turn_inj x y hx hy (turns_inj n _ _ (turn_lt x hx) (turn_lt y hy) h)
theorem xor_inj (a b c : Nat) (e : a ^^^ c = b ^^^ c) : a = b := by
  have := congrArg (· ^^^ c) e
  simpa [Nat.xor_assoc] using this
theorem byteIn_inj (x y : Nat) (c : UInt8) (hx : x < 65536) (hy : y < 65536) (h : byteIn x c = byteIn y c) : x = y :=
  xor_inj _ _ _ (turns_inj 8 _ _ (xor_lt _ _ hx (u8_lt c)) (xor_lt _ _ hy (u8_lt c)) h)
theorem foldl_inj : ∀ (l : List UInt8) x y, x < 65536 → y < 65536 → l.foldl byteIn x = l.foldl byteIn y → x = y
  | [], _, _, _, _, h => h
  | c :: l, x, y, hx, hy, h => byteIn_inj x y c hx hy (foldl_inj l _ _ (byteIn_lt x c hx) (byteIn_lt y c hy) h)
theorem byteIn_other (x : Nat) (c d : UInt8) (hx : x < 65536) (h : byteIn x c = byteIn x d) : c = d := by
  have e := turns_inj 8 _ _ (xor_lt _ _ hx (u8_lt c)) (xor_lt _ _ hx (u8_lt d)) h
  rw [Nat.xor_comm x, Nat.xor_comm x] at e
  exact UInt8.toNat_inj.mp (xor_inj _ _ _ e)
/-- Of two texts that differ in one byte the sums differ. -/
theorem sum_other (p q : List UInt8) (c d : UInt8) (h : c ≠ d) : sum (p ++ c :: q) ≠ sum (p ++ d :: q) := by
  intro e
  have e1 := xor_inj _ _ _ e
  unfold reg at e1
  rw [List.foldl_append, List.foldl_append, List.foldl_cons, List.foldl_cons] at e1
  have hp : p.foldl byteIn 65535 < 65536 := foldl_lt p _ (by omega)
  have e2 := foldl_inj q _ _ (byteIn_lt _ c hp) (byteIn_lt _ d hp) e1
  exact h (byteIn_other _ c d hp e2)
end Go.Proofs.Ytnafklmigndgeaa.Plain
