/-
  Contracts: LeastDifference, FirstHalf, CountHalves of the model. Conditions: none.
-/
import Derived.Test.YtkijcpbjjbhnhaaHlvS
namespace Go.Proofs.Ytkijcpbjjbhnhaa
open Go.RowKit
set_option linter.unusedVariables false
set_option linter.unusedSimpArgs false

set_option maxHeartbeats 1000000 in
theorem sLeastDiff_any (A : Option Addr) (n c : Nat) (W : List Int) (w : World) (hr : Rd w 1 A n (intCells W)) (hn : n ≤ 4000000000) :
    Calls Try.prog 19 #[.slice A n c] w fun e w' => e = .returned (.tuple #[.int .i64 (ldR W), .bool (wtB W)]) ∧ Below w.heap.size w w' := by
  cases h : wtB W
  · rw [show ldR W = 0 by simp [ldR, h]]
    go_enter Try.func19, Try.ntmps19
    go_wp2_with fail
    refine (skGood_any _ _ _ W _ hr hn).mono ?_; rintro e w1 ⟨rfl, rfl⟩
    rw [h]
    go_wp2
    go_ret2
    exact ⟨rfl, Below.refl _ _⟩
  · have HE := Lib.hid (skHalves_any A n c W w hr h)
    go_enter Try.func19, Try.ntmps19
    go_wp2_with fail
    refine (skGood_any _ _ _ W _ hr hn).mono ?_; rintro e w1 ⟨rfl, rfl⟩
    rw [h]
    go_wp2_with fail
    refine HE.out.mono ?_; rintro e w2 ⟨A', n', c', rfl, ho, hb2⟩
    have HO := Lib.hid ho
    have HB := Lib.hid hb2
    clear ho hb2 HE
    go_wp2
    go_ret2
    exact ⟨rfl, HB.out⟩

set_option maxHeartbeats 1000000 in
theorem sCountHalves_any (A : Option Addr) (n c : Nat) (W : List Int) (w : World) (hr : Rd w 1 A n (intCells W)) (hn : n ≤ 4000000000) :
    Calls Try.prog 25 #[.slice A n c] w fun e w' => e = .returned (.tuple #[.int .i64 (chR W), .bool (wtB W)]) ∧ Below w.heap.size w w' := by
  cases h : wtB W
  · rw [show chR W = 0 by simp [chR, h]]
    go_enter Try.func25, Try.ntmps25
    go_wp2_with fail
    refine (skGood_any _ _ _ W _ hr hn).mono ?_; rintro e w1 ⟨rfl, rfl⟩
    rw [h]
    go_wp2
    go_ret2
    exact ⟨rfl, Below.refl _ _⟩
  · have HE := Lib.hid (skHalves_any A n c W w hr h)
    go_enter Try.func25, Try.ntmps25
    go_wp2_with fail
    refine (skGood_any _ _ _ W _ hr hn).mono ?_; rintro e w1 ⟨rfl, rfl⟩
    rw [h]
    go_wp2_with fail
    refine HE.out.mono ?_; rintro e w2 ⟨A', n', c', rfl, ho, hb2⟩
    have HO := Lib.hid ho
    have HB := Lib.hid hb2
    clear ho hb2 HE
    go_wp2
    go_ret2
    exact ⟨rfl, HB.out⟩

set_option maxHeartbeats 1000000 in
theorem sFirstHalf_any (A : Option Addr) (n c : Nat) (W : List Int) (w : World) (hr : Rd w 1 A n (intCells W)) (hn : n ≤ 4000000000) :
    Calls Try.prog 21 #[.slice A n c] w fun e w' => ∃ A' n' c', e = .returned (.tuple #[.slice A' n' c', .bool (wtB W)]) ∧ w'.ownsRow w.heap.size 3 1 (.slice A' n' c') n' (intCells (fhR W)) ∧ Below w.heap.size w w' := by
  cases h : wtB W
  · rw [show fhR W = [] by simp [fhR, h]]
    go_enter Try.func21, Try.ntmps21
    go_wp2_with fail
    refine (skGood_any _ _ _ W _ hr hn).mono ?_; rintro e w1 ⟨rfl, rfl⟩
    rw [h]
    go_wp2
    go_ret2
    exact ⟨none, 0, 0, rfl, World.ownsRow_nil _ _ _ _, Below.refl _ _⟩
  · have HE := Lib.hid (skHalves_any A n c W w hr h)
    go_enter Try.func21, Try.ntmps21
    go_wp2_with fail
    refine (skGood_any _ _ _ W _ hr hn).mono ?_; rintro e w1 ⟨rfl, rfl⟩
    rw [h]
    go_wp2_with fail
    refine HE.out.mono ?_; rintro e w2 ⟨A', n', c', rfl, ho, hb2⟩
    have HO := Lib.hid ho
    have HB := Lib.hid hb2
    clear ho hb2 HE
    go_wp2
    go_ret2
    exact ⟨A', n', c', rfl, HO.out, HB.out⟩

end Go.Proofs.Ytkijcpbjjbhnhaa
