/-
  SameTexts of two lists that hold the same texts is true.
-/
import Derived.Test.YtnafklmigndgeaaFrames
namespace Go.Proofs.Ytnafklmigndgeaa
open Go.RowKit Plain

/-- The slice v reads as the cells xs (an element a cell). -/
def Reads (w : World) (v : Value) (n : Nat) (xs : List Value) : Prop :=
  xs.length = n ∧ ∃ a cap, v = .slice a n cap ∧ (n = 0 ∨ ∃ b off, a = some ⟨b, off, none⟩ ∧ ∀ j u, xs[j]? = some u → w.cell? ⟨b, off + j, none⟩ = some u)
theorem Row.reads {w : World} {v : Value} {n : Nat} {xs : List Value} (h : Row w 1 v n xs) : Reads w v n xs := by
  refine ⟨by have := h.1; omega, ?_⟩
  rcases h.2 with ⟨rfl, rfl⟩ | ⟨g, cap, rfl, _, _, _, hc, _⟩
  · exact ⟨none, 0, rfl, .inl rfl⟩
  · exact ⟨some ⟨g, 0, none⟩, cap, rfl, .inr ⟨g, 0, rfl, fun j u hu => by rw [Nat.zero_add]; exact hc j u hu⟩⟩

theorem strs_get (l : List (List UInt8)) (k : Nat) (h : k < l.length) : (strs l)[k]? = some (.string ⟨l[k].toArray⟩) := by simp [strs, h]

set_option maxRecDepth 100000 in
set_option maxHeartbeats 2000000 in
theorem sameTexts_true (va vb : Value) (n : Nat) (l : List (List UInt8)) (w : World) (ha : Reads w va n (strs l)) (hb : Reads w vb n (strs l)) (hn : n ≤ 1000000) :
    Calls Try.prog 17 #[va, vb] w fun e w' => e = .returned (.bool true) ∧ ∃ m, w' = w.drewN m := by
  obtain ⟨hl, a, ca, rfl, hA⟩ := ha
  obtain ⟨_, b, cb, rfl, hB⟩ := hb
  have hll : l.length = n := by simpa [strs] using hl
  have heq : ((n : Int) != (n : Int)) = false := by simp
  clear hl
  go_enter Try.func17, Try.ntmps17
  go_wp2
  go_loopw [5] (fun i wr => ∃ k m : Nat, k ≤ n ∧ i = .int .i64 k ∧ wr = w.drewN m) (fun i _ => n - (intOf i).toNat)
  case atStart => exact ⟨0, 0, Nat.zero_le _, rfl, rfl⟩
  case round =>
    obtain ⟨k, m, hk, rfl, rfl⟩ := hrel
    by_cases hlt : k < n
    · rcases hA with hA | ⟨b1, o1, rfl, hA⟩
      · omega
      rcases hB with hB | ⟨b2, o2, rfl, hB⟩
      · omega
      have c1 := hA k _ (strs_get l k (by omega))
      have c2 := hB k _ (strs_get l k (by omega))
      clear hA hB
      generalize (ByteArray.mk (l[k]'(by omega)).toArray) = S at c1 c2
      have hlt' : (k : Int) < (n : Int) := by omega
      go_wp2
      go_quiet (fail)
      go_wp2
      go_roundw
      case rel => exact ⟨k + 1, _, by omega, by go_num, rfl⟩
      case measure => simp [intOf]; omega
    · go_wp2
      go_ret
      exact ⟨rfl, m, rfl⟩
end Go.Proofs.Ytnafklmigndgeaa
