/-
  An error, held against its number.
-/
import Derived.Test.YtgfjgenkpfdofaaDoorBase
namespace Go.Proofs.YtgfjgenkpfdofaaDoor
open Go.RowKit

set_option maxRecDepth 100000 in
theorem same_ok (k : Nat) (w : World) : Calls Tryd.prog 8 #[errV k, .int .i64 (k : Int)] w fun e w' => e = .returned (.bool true) ∧ w = w' := by
  by_cases hk : k = 0
  · subst hk
    have e0 : errV 0 = .nilIface := rfl
    rw [e0]
    go_enter Tryd.func8, Tryd.ntmps8
    go_wp2
    go_ret
    exact ⟨rfl, rfl⟩
  · have e0 : errV k = .iface 61 (.int .i64 (k : Int)) := by simp [errV, hk]
    have hp : (0 : Int) < (k : Int) := by omega
    have hta := assertErr
    rw [e0]
    clear e0
    go_enter Tryd.func8, Tryd.ntmps8
    go_wp2
    go_ret
    exact ⟨rfl, rfl⟩
end Go.Proofs.YtgfjgenkpfdofaaDoor
