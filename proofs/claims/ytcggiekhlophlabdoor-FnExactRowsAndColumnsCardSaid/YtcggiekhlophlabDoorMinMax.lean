/-
  Contracts: the lesser and the greater of two numbers, of the model.
-/
import Derived.Test.YtcggiekhlophlabDoorBase
namespace Go.Proofs.YtcggiekhlophlabDoor
open Go.RowKit

set_option maxHeartbeats 400000 in
theorem l1Least_min (a b : Int) (w : World) : Calls Tryd.prog 31 #[.int .i64 a, .int .i64 b] w fun e w' => e = .returned (.int .i64 (min a b)) ∧ w = w' := by
  by_cases h : a < b
  · have e : min a b = a := by omega
    rw [e]; clear e
    go_enter Tryd.func31, Tryd.ntmps31
    go_wp2
    go_ret
    exact ⟨rfl, rfl⟩
  · have e : min a b = b := by omega
    rw [e]; clear e
    go_enter Tryd.func31, Tryd.ntmps31
    go_wp2
    go_ret
    exact ⟨rfl, rfl⟩

end Go.Proofs.YtcggiekhlophlabDoor
