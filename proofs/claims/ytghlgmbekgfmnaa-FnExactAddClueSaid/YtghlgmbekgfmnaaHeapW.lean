/-
  Words and contracts: what remembered numbers leave unchanged; slices.Contains, leastMissing.
-/
import Derived.Test.YtghlgmbekgfmnaaMemo
import Derived.Test.YtghlgmbekgfmnaaChg
import Derived.Test.YtghlgmbekgfmnaaSS
namespace Go.Proofs.Ytghlgmbekgfmnaa
open Go.RowKit Go.Maps
set_option linter.unusedVariables false

set_option maxRecDepth 100000 in
set_option maxHeartbeats 1000000 in
theorem slIndex_any (A : Option Addr) (n c : Nat) (L : List Int) (v : Int) (w : World) (hr : Rd w 1 A n (intCells L)) (hn : n ≤ 1000000) :
    Calls Try.prog 83 #[.slice A n c, .int .i64 v] w fun e w' => (∃ i : Int, e = .returned (.int .i64 i) ∧ (v ∈ L → 0 ≤ i ∧ i ≤ 1000000) ∧ (v ∉ L → i = -1)) ∧ w = w' := by
  have hll := hr.ilen
  have HLL := Lib.hid hll
  clear hll
  go_enter Try.func83, Try.ntmps83
  go_wp2
  go_loop [8] (fun i => ∃ k : Nat, k ≤ n ∧ i = .int .i64 k ∧ Hid (∀ j, j < k → L.getD j 0 ≠ v)) (fun i => n - (intOf i).toNat)
  case atStart => exact ⟨0, Nat.zero_le _, rfl, fun j hj => absurd hj (by omega)⟩
  case round =>
    obtain ⟨k, hk, rfl, hT⟩ := hrel
    by_cases hlt : k < n
    · obtain ⟨b1, o1, rfl, _, hx, p1⟩ := hr.num hlt
      have HQ := Lib.hid (getD_lt hx)
      have HMM := Lib.hid (List.getElem_mem hx)
      generalize l0 : L[k] = z at *
      clear hx l0
      by_cases he : v = z
      · have hd : (v == z) = true := by simpa using he
        have HE := Lib.hid he
        clear he
        go_wp2
        go_ret
        exact ⟨⟨k, rfl, fun _ => by omega, fun h => absurd (by rw [HE.out]; exact HMM.out) h⟩, rfl⟩
      · have hd : (v == z) = false := by simpa using he
        have HE := Lib.hid he
        clear he
        go_wp2
        go_round
        case rel => exact ⟨k + 1, by omega, by go_num, fun j hj => by
          by_cases e : j = k
          · subst e; rw [HQ.out]; exact fun q => HE.out q.symm
          · exact hT.out j (by omega)⟩
        case measure => simp [intOf]; omega
    · go_wp2
      go_ret
      have hkn : k = n := by omega
      subst hkn
      refine ⟨⟨-1, rfl, fun h => ?_, fun _ => rfl⟩, rfl⟩
      obtain ⟨j, hj, e⟩ := List.getElem_of_mem h
      exact absurd (by rw [getD_lt hj]; exact e) (hT.out j (by have := HLL.out; omega))

set_option maxHeartbeats 400000 in
theorem contains_any (A : Option Addr) (n c : Nat) (L : List Int) (v : Int) (w : World) (hr : Rd w 1 A n (intCells L)) (hn : n ≤ 1000000) :
    Calls Try.prog 122 #[.slice A n c, .int .i64 v] w fun e w' => e = .returned (.bool (decide (v ∈ L))) ∧ w = w' := by
  by_cases hm : v ∈ L
  · rw [decide_eq_true hm]
    have HM := Lib.hid hm
    clear hm
    go_enter Try.func122, Try.ntmps122
    go_wp2_with fail
    refine (slIndex_any _ _ _ _ _ _ hr hn).mono ?_; rintro e wx ⟨⟨i, rfl, h1, h2⟩, rfl⟩
    have h3 := (h1 HM.out).1
    clear h1 h2
    go_wp2
    go_ret
    exact ⟨rfl, rfl⟩
  · rw [decide_eq_false hm]
    have HM := Lib.hid hm
    clear hm
    go_enter Try.func122, Try.ntmps122
    go_wp2_with fail
    refine (slIndex_any _ _ _ _ _ _ hr hn).mono ?_; rintro e wx ⟨⟨i, rfl, h1, h2⟩, rfl⟩
    have h3 := h2 HM.out
    subst h3
    clear h1 h2
    go_wp2
    go_ret
    exact ⟨rfl, rfl⟩

set_option maxRecDepth 100000 in
set_option maxHeartbeats 1000000 in
theorem leastMissing_any (A : Option Addr) (n c : Nat) (L : List Int) (w : World) (hr : Rd w 1 A n (intCells L)) (hn : n ≤ 1000000) :
    Calls Try.prog 116 #[.slice A n c] w fun e w' => e = .returned (.int .i64 (mexL L : Nat)) ∧ w = w' := by
  have hll := hr.ilen
  have HLL := Lib.hid hll
  clear hll
  have HC := Lib.hid (fun v => contains_any A n c L v w hr hn)
  go_enter Try.func116, Try.ntmps116
  go_wp2
  go_loop [3] (fun i => ∃ k : Nat, k ≤ n ∧ i = .int .i64 k ∧ Hid (∀ j, j < k → (j : Int) ∈ L)) (fun i => n + 1 - (intOf i).toNat)
  case atStart => exact ⟨0, Nat.zero_le _, rfl, fun j hj => absurd hj (by omega)⟩
  case round =>
    obtain ⟨k, hk, rfl, hT⟩ := hrel
    by_cases hm : (k : Int) ∈ L
    · have HM := Lib.hid (decide_eq_true hm)
      have hT2 : Hid (∀ j, j < k + 1 → (j : Int) ∈ L) := fun j hj => by
        by_cases e : j = k
        · subst e; exact hm
        · exact hT.out j (by omega)
      have hk1 : k + 1 ≤ n := by have := IsMex.le hT2.out; have := HLL.out; omega
      clear hm
      go_wp2_with fail
      refine (HC.out _).mono ?_; rintro e wx ⟨rfl, rfl⟩
      rw [HM.out]
      go_wp2
      go_round
      case rel => exact ⟨k + 1, by omega, by go_num, hT2⟩
      case measure => simp [intOf]; omega
    · have HM := Lib.hid (decide_eq_false hm)
      have HX : Hid (mexL L = k) := mexL_is ⟨hm, hT.out⟩
      clear hm
      go_wp2_with fail
      refine (HC.out _).mono ?_; rintro e wx ⟨rfl, rfl⟩
      rw [HM.out]
      go_wp2
      go_ret
      exact ⟨by rw [HX.out]; rfl, rfl⟩

end Go.Proofs.Ytghlgmbekgfmnaa
