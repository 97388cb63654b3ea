/-
  Contract: the model's brBoth, orders told.
-/
import Derived.Test.YtjfedmcejeeocaaCountWO
import Derived.Test.YtjfedmcejeeocaaChoose
namespace Go.Proofs.Ytjfedmcejeeocaa
open Go.RowKit Go.Maps
set_option linter.unusedVariables false

theorem capN_in {n k : Nat} (h : k ≤ n) : InR ((capN (bin n k) : Nat) : Int) := by
  have h1 := bin_pos n k h
  unfold capN InR
  split <;> omega
set_option maxHeartbeats 1000000 in
theorem brBoth_yes (a b : Int) (s t : Nat) (w : World) (ha : InR a) (hb : InR b) (hs : s ≤ t) (ht : t ≤ 300) :
    Calls Try.prog 43 #[.int .i64 a, .int .i64 b, .int .i64 s, .int .i64 t, .bool true] w fun e w' => e = .returned (.int .i64 (timesC (timesC a b) ((capN (bin t s) : Nat) : Int))) ∧ Below w.heap.size w w' := by
  have tin := timesC_in ha hb
  have HC := Lib.hid (brChoose_any t s w ht (by omega))
  have cin := capN_in hs
  generalize ((capN (bin t s) : Nat) : Int) = v at *
  have HT := Lib.hid (fun wx => brTimes_any (timesC a b) v wx tin cin)
  go_enter Try.func43, Try.ntmps43
  go_wp2_with fail
  refine (brTimes_any _ _ _ ha hb).mono ?_; rintro e wx ⟨rfl, rfl⟩
  go_wp2_with fail
  refine HC.out.mono ?_; rintro e w1 ⟨rfl, hb1⟩
  go_wp2_with fail
  refine (HT.out _).mono ?_; rintro e wx ⟨rfl, rfl⟩
  go_wp2
  go_ret
  exact ⟨rfl, hb1⟩

end Go.Proofs.Ytjfedmcejeeocaa
