/-
  Contracts: whether so many can share, of the program and of the model.
-/
import Derived.Test.YtfbmnaepobhnkaaMinMax
import Derived.Test.YtfbmnaepobhnkaaNuts
namespace Go.Proofs.Ytfbmnaepobhnkaa
open Go.RowKit

def shareBQ (t m : Int) : Bool := decide (1 ≤ t) && decide (t ≤ m) && decide (t ≤ 5)
theorem share_inQ (t m : Int) : inB t 1 (min m 5) = shareBQ t m := by
  by_cases h1 : 1 ≤ t <;> by_cases h2 : t ≤ m <;> by_cases h3 : t ≤ 5 <;> simp [inB, shareBQ, h1, h2, h3] <;> omega

set_option maxHeartbeats 1000000 in
theorem canShareQ_any (t m : Int) (w : World) : Calls Try.prog 37 #[.int .i64 t, .int .i64 m] w fun e w' => e = .returned (.bool (shareBQ t m)) ∧ w = w' := by
  have key : ∀ b : Bool, shareBQ t m = b → Calls Try.prog 37 #[.int .i64 t, .int .i64 m] w fun e w' => e = .returned (.bool b) ∧ w = w' := by
    intro b hb
    by_cases h1 : 1 ≤ t
    · rcases (show m < 5 ∨ 5 ≤ m by omega) with h3 | h3
      · rcases (show t ≤ m ∨ m < t by omega) with h2 | h2
        all_goals
          first
          | (have hB : true = b := by rw [← hb]; simp [shareBQ, h1, h2]; omega)
          | (have hB : false = b := by rw [← hb]; simp [shareBQ, h1]; omega)
          subst hB
          clear hb
          go_enter Try.func37, Try.ntmps37
          go_wp2
          all_goals
            go_ret
            first
            | exact ⟨rfl, rfl⟩
            | exact ⟨congrArg (fun b => Ending.returned (.bool b)) (by simp; omega), rfl⟩
      · rcases (show t ≤ 5 ∨ 5 < t by omega) with h2 | h2
        all_goals
          first
          | (have hB : true = b := by rw [← hb]; simp [shareBQ, h1, h2]; omega)
          | (have hB : false = b := by rw [← hb]; simp [shareBQ, h1]; omega)
          subst hB
          clear hb
          go_enter Try.func37, Try.ntmps37
          go_wp2
          all_goals
            go_ret
            first
            | exact ⟨rfl, rfl⟩
            | exact ⟨congrArg (fun b => Ending.returned (.bool b)) (by simp; omega), rfl⟩
    · have hB : false = b := by rw [← hb]; simp [shareBQ, h1]
      subst hB
      clear hb
      go_enter Try.func37, Try.ntmps37
      go_wp2
      go_ret
      exact ⟨rfl, rfl⟩
  exact key _ rfl

set_option maxHeartbeats 1000000 in
theorem ntSharersQ_any (A : Option Addr) (n c : Nat) (ss : List ByteArray) (t m : Int) (w : World) (hr : Rd w 1 A n (strCells ss)) :
    Calls Try.prog 33 #[.slice A n c, .int .i64 t, .int .i64 m] w fun e w' => e = .returned (.bool (nutsB ss && shareBQ t m)) ∧ w = w' := by
  have HE := Lib.hid (share_inQ t m)
  cases hB : nutsB ss
  · go_enter Try.func33, Try.ntmps33
    go_wp2_with fail
    refine (ntGood_any _ _ _ _ _ hr).mono ?_; rintro e w1 ⟨rfl, rfl⟩
    rw [hB]
    go_wp2
    go_ret
    exact ⟨rfl, rfl⟩
  · go_enter Try.func33, Try.ntmps33
    go_wp2_with fail
    refine (ntGood_any _ _ _ _ _ hr).mono ?_; rintro e w1 ⟨rfl, rfl⟩
    rw [hB]
    go_wp2_with fail
    refine (l1Least_min _ _ _).mono ?_; rintro e w1 ⟨rfl, rfl⟩
    go_wp2_with fail
    refine (l1In_any _ _ _ _).mono ?_; rintro e w1 ⟨rfl, rfl⟩
    rw [HE.out]
    go_wp2
    go_ret
    exact ⟨rfl, rfl⟩

theorem share_boundsQ {t m : Int} (h : shareBQ t m = true) : 1 ≤ t ∧ t ≤ m ∧ t ≤ 5 := by
  simp [shareBQ] at h; omega


end Go.Proofs.Ytfbmnaepobhnkaa
