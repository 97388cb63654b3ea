/-
  Contracts: the lesser and the greater of two numbers, of the model.
-/
import Derived.Test.YtobncknlipeinaaBase
namespace Go.Proofs.Ytobncknlipeinaa
open Go.RowKit

set_option maxHeartbeats 400000 in
theorem l1Most_max (a b : Int) (w : World) : Calls Try.prog 44 #[.int .i64 a, .int .i64 b] w fun e w' => e = .returned (.int .i64 (max a b)) ∧ w = w' := by
  by_cases h : a > b
  · have e : max a b = a := by omega
    rw [e]; clear e
    go_enter Try.func44, Try.ntmps44
    go_wp2
    go_ret
    exact ⟨rfl, rfl⟩
  · have e : max a b = b := by omega
    rw [e]; clear e
    go_enter Try.func44, Try.ntmps44
    go_wp2
    go_ret
    exact ⟨rfl, rfl⟩

end Go.Proofs.Ytobncknlipeinaa
