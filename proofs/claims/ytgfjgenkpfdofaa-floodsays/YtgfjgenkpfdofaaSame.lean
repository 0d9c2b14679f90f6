/-
  An error, held against its number.
-/
import Derived.Test.YtgfjgenkpfdofaaBase
namespace Go.Proofs.Ytgfjgenkpfdofaa
open Go.RowKit

set_option maxRecDepth 100000 in
theorem same_ok (k : Nat) (w : World) : Calls Try.prog 7 #[errV k, .int .i64 (k : Int)] w fun e w' => e = .returned (.bool true) ∧ w = w' := by
  by_cases hk : k = 0
  · subst hk
    have e0 : errV 0 = .nilIface := rfl
    rw [e0]
    go_enter Try.func7, Try.ntmps7
    go_wp2
    go_ret
    exact ⟨rfl, rfl⟩
  · have e0 : errV k = .iface 64 (.int .i64 (k : Int)) := by simp [errV, hk]
    have hp : (0 : Int) < (k : Int) := by omega
    have hta := assertErr
    rw [e0]
    clear e0
    go_enter Try.func7, Try.ntmps7
    go_wp2
    go_ret
    exact ⟨rfl, rfl⟩
end Go.Proofs.Ytgfjgenkpfdofaa
