/-
  Contracts: StripMoves of the program and of the model. Condition: where the program has laid its errors.
-/
import Derived.Test.YtcocdidkkcjbgaaDoorSmv
import Derived.Deep.QuietTactic
import Derived.BigQuiet
namespace Go.Proofs.YtcocdidkkcjbgaaDoor
open Go.RowKit
set_option linter.unusedSimpArgs false
set_option linter.unusedVariables false

def okS (long l : Int) : Bool := inB long 1 60 && inB l 1 60
theorem inB_true {n a b : Int} (h : inB n a b = true) : a ≤ n ∧ n ≤ b := by simpa [inB] using h
def smR (long l : Int) (u : Bool) : List Int := if okS long l then smL long l u else []
theorem smR_no {long l : Int} {u : Bool} (h : okS long l = false) : smR long l u = [] := by simp [smR, h]
theorem smR_yes {long l : Int} {u : Bool} (h : okS long l = true) : smR long l u = smL long l u := by simp [smR, h]
theorem okS_true {long l : Int} (h : okS long l = true) : 1 ≤ long ∧ long ≤ 60 ∧ 1 ≤ l ∧ l ≤ 60 := by
  simp only [okS, Bool.and_eq_true] at h
  have a := inB_true h.1
  have b := inB_true h.2
  exact ⟨a.1, a.2, b.1, b.2⟩
theorem length_smR (long l : Int) (u : Bool) : (smR long l u).length ≤ 30 := by
  unfold smR
  split
  · rename_i h; exact length_smL _ _ _ (okS_true h).2.1
  · simp

set_option maxHeartbeats 400000 in
theorem isLen_any (n : Int) (w : World) :
    Calls Tryd.prog 35 #[.int .i64 n] w fun e w' => e = .returned (.bool (inB n 1 60)) ∧ w = w' := by
  by_cases h1 : 1 ≤ n <;> by_cases h2 : n ≤ 60
  all_goals
    go_enter Tryd.func35, Tryd.ntmps35
    go_wp2
    go_ret
    exact ⟨by simp [inB, h1, h2], rfl⟩


set_option maxHeartbeats 1000000 in
theorem laCan_any (long t l : Int) (u : Bool) (w : World) (h1 : 1 ≤ long) (h2 : long ≤ 60) (h3 : 1 ≤ l) (h4 : l ≤ 60) (h5 : 1 ≤ t) (h6 : t ≤ 60) :
    Calls Tryd.prog 33 #[.int .i64 long, .int .i64 t, .int .i64 l, .bool u] w fun e w' => e = .returned (.bool (canS long t l u)) ∧ w = w' := by
  by_cases ha : l ≤ t
  · have da : decide (l ≤ t) = true := decide_eq_true ha
    by_cases hb : l ≤ long - t
    · have db : decide (l ≤ long - t) = true := decide_eq_true hb
      cases u
      · have hc : canS long t l false = true := by simp [canS, ha, hb]
        rw [hc]
        go_enter Tryd.func33, Tryd.ntmps33
        go_wp2
        go_ret
        exact ⟨rfl, rfl⟩
      · by_cases he : t + t = long
        · have hc : canS long t l true = false := by simp [canS, he]
          have dq : (t != long - t) = false := by simp; omega
          rw [hc]
          clear he
          go_enter Tryd.func33, Tryd.ntmps33
          go_wp2
          go_ret
          exact ⟨rfl, rfl⟩
        · have hc : canS long t l true = true := by simp [canS, he, ha, hb]
          have dq : (t != long - t) = true := by simp; omega
          rw [hc]
          clear he
          go_enter Tryd.func33, Tryd.ntmps33
          go_wp2
          go_ret
          exact ⟨rfl, rfl⟩
    · have db : decide (l ≤ long - t) = false := decide_eq_false hb
      have hc : canS long t l u = false := by simp [canS, hb]
      rw [hc]
      go_enter Tryd.func33, Tryd.ntmps33
      go_wp2
      go_ret
      exact ⟨rfl, rfl⟩
  · have da : decide (l ≤ t) = false := decide_eq_false ha
    have hc : canS long t l u = false := by simp [canS, ha]
    rw [hc]
    go_enter Tryd.func33, Tryd.ntmps33
    go_wp2
    go_ret
    exact ⟨rfl, rfl⟩


end Go.Proofs.YtcocdidkkcjbgaaDoor
