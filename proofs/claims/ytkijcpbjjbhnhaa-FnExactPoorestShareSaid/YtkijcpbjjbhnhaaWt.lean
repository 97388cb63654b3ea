/-
  Words and contracts: weights: AreWeights, the model's skGood and skSum, the program's sumOf and isUpTo. Conditions: none.
-/
import Derived.Test.YtkijcpbjjbhnhaaIKit
import Derived.Test.YtkijcpbjjbhnhaaOpenI
namespace Go.Proofs.Ytkijcpbjjbhnhaa
open Go.RowKit
set_option linter.unusedVariables false
set_option linter.unusedSimpArgs false

theorem inB_trueW {n a b : Int} (h : inB n a b = true) : a ≤ n ∧ n ≤ b := by simpa [inB] using h
/-- all numbers of a list lie between two -/
def allIn (a b : Int) (L : List Int) : Bool := L.all fun n => inB n a b
theorem allIn_mem {a b : Int} {L : List Int} (h : allIn a b L = true) : ∀ z ∈ L, a ≤ z ∧ z ≤ b := fun z hz => inB_trueW (List.all_eq_true.1 h z hz)
theorem allIn_take {a b : Int} {L : List Int} {k : Nat} (h : k < L.length) : allIn a b (L.take (k + 1)) = (allIn a b (L.take k) && inB L[k] a b) := by
  unfold allIn
  rw [List.take_succ_eq_append_getElem h, List.all_append]; simp
theorem allIn_no {a b : Int} {L : List Int} {k : Nat} (h : k < L.length) (hb : inB L[k] a b = false) : allIn a b L = false := by
  cases e : allIn a b L
  · rfl
  · rw [show inB L[k] a b = true from List.all_eq_true.1 e _ (List.getElem_mem h)] at hb; cases hb
/-- the list is weights -/
def wtB (L : List Int) : Bool := inB L.length 1 12 && allIn 1 1000 L
theorem wtB_true {L : List Int} (h : wtB L = true) : 1 ≤ L.length ∧ L.length ≤ 12 ∧ ∀ z ∈ L, 1 ≤ z ∧ z ≤ 1000 := by
  simp only [wtB, Bool.and_eq_true] at h
  have := inB_trueW h.1
  exact ⟨by omega, by omega, allIn_mem h.2⟩
theorem sumW_bound {l : List Int} (h : ∀ z ∈ l, 0 ≤ z ∧ z ≤ 1000) : 0 ≤ l.sum ∧ l.sum ≤ 1000 * l.length := by
  induction l with
  | nil => simp
  | cons a l ih =>
    have h1 := h a (by simp)
    have h2 := ih (fun z hz => h z (by simp [hz]))
    simp
    omega
theorem sum_takeW {l : List Int} {k : Nat} (hk : k < l.length) : (l.take (k + 1)).sum = (l.take k).sum + l[k] := by
  rw [List.take_succ_eq_append_getElem hk, List.sum_append]
  simp

set_option maxHeartbeats 400000 in
theorem upToW_any (n m : Int) (w : World) :
    Calls Try.prog 47 #[.int .i64 n, .int .i64 m] w fun e w' => e = .returned (.bool (inB n 1 m)) ∧ w = w' := by
  by_cases h1 : 1 ≤ n <;> by_cases h2 : n ≤ m
  all_goals
    go_enter Try.func47, Try.ntmps47
    go_wp2
    go_ret
    exact ⟨by simp [inB, h1, h2], rfl⟩

set_option maxRecDepth 100000 in
set_option maxHeartbeats 4000000 in
theorem l1AllG_any (A : Option Addr) (n c : Nat) (L : List Int) (a b : Int) (w : World) (hr : Rd w 1 A n (intCells L)) (hn : n ≤ 4000000000) :
    Calls Try.prog 66 #[.slice A n c, .int .i64 a, .int .i64 b] w fun e w' => e = .returned (.bool (allIn a b L)) ∧ w = w' := by
  have HL := Lib.hid hr.ilen
  go_enter Try.func66, Try.ntmps66
  go_wp2
  go_loop [11] (fun i => ∃ k : Nat, k ≤ n ∧ i = .int .i64 k ∧ Hid (allIn a b (L.take k) = true)) (fun i => n - (intOf i).toNat)
  case atStart => exact ⟨0, Nat.zero_le _, rfl, by simp [Hid, allIn]⟩
  case round =>
    obtain ⟨k, hk, rfl, hA⟩ := hrel
    by_cases hlt : k < n
    · obtain ⟨bb, o, rfl, hbl, hx, p1⟩ := hr.num hlt
      have HS := Lib.hid (allIn_take (a := a) (b := b) hx)
      have HNo : Hid (inB L[k] a b = false → allIn a b L = false) := fun h => allIn_no hx h
      generalize L[k] = x at *
      cases hb : inB x a b
      · have HF := Lib.hid (HNo.out hb)
        go_wp2_with fail
        refine (l1In_any _ _ _ _).mono ?_; rintro e wx ⟨rfl, rfl⟩
        go_wp2
        go_ret
        exact ⟨ret_bool HF.out.symm, rfl⟩
      · have hA2 := HS.out
        rw [hb, hA.out] at hA2
        have HA2 := Lib.hid hA2
        clear hA2
        go_wp2_with fail
        refine (l1In_any _ _ _ _).mono ?_; rintro e wx ⟨rfl, rfl⟩
        go_wp2
        go_round
        case rel => exact ⟨k + 1, by omega, by go_num, HA2⟩
        case measure => simp [intOf]; omega
    · go_wp2
      go_ret
      have hA := hA.out
      rw [List.take_of_length_le (by rw [HL.out]; omega)] at hA
      exact ⟨ret_bool hA.symm, rfl⟩

set_option maxHeartbeats 1000000 in
theorem skGood_any (A : Option Addr) (n c : Nat) (L : List Int) (w : World) (hr : Rd w 1 A n (intCells L)) (hn : n ≤ 4000000000) :
    Calls Try.prog 46 #[.slice A n c] w fun e w' => e = .returned (.bool (wtB L)) ∧ w = w' := by
  have hll := hr.ilen
  cases hi : inB (n : Int) 1 12
  · have hk : wtB L = false := by simp [wtB, hll, hi]
    rw [hk]
    clear hll
    go_enter Try.func46, Try.ntmps46
    go_wp2_with fail
    refine (l1In_any _ _ _ _).mono ?_; rintro e wx ⟨rfl, rfl⟩
    rw [hi]
    go_wp2
    go_ret
    exact ⟨rfl, rfl⟩
  · have hk : wtB L = allIn 1 1000 L := by simp [wtB, hll, hi]
    rw [hk]
    clear hll
    go_enter Try.func46, Try.ntmps46
    go_wp2_with fail
    refine (l1In_any _ _ _ _).mono ?_; rintro e wx ⟨rfl, rfl⟩
    rw [hi]
    go_wp2_with fail
    refine (l1AllG_any _ _ _ L _ _ _ hr hn).mono ?_; rintro e wx ⟨rfl, rfl⟩
    go_wp2
    go_ret
    exact ⟨rfl, rfl⟩

set_option maxHeartbeats 1000000 in
theorem sAreWeights_any (A : Option Addr) (n c : Nat) (L : List Int) (w : World) (hr : Rd w 1 A n (intCells L)) (hn : n ≤ 4000000000) :
    Calls Try.prog 15 #[.slice A n c] w fun e w' => e = .returned (.bool (wtB L)) ∧ Below w.heap.size w w' := by
  go_enter Try.func15, Try.ntmps15
  go_wp2_with fail
  refine (skGood_any _ _ _ L _ hr hn).mono ?_; rintro e wx ⟨rfl, rfl⟩
  go_wp2
  go_ret
  exact ⟨rfl, Below.refl _ _⟩

set_option maxRecDepth 100000 in
set_option maxHeartbeats 4000000 in
theorem areWeights_any (A : Option Addr) (n c : Nat) (L : List Int) (w : World) (hr : Rd w 1 A n (intCells L)) (hn : n ≤ 4000000000) :
    Calls Try.prog 17 #[.slice A n c] w fun e w' => e = .returned (.bool (wtB L)) ∧ Below w.heap.size w w' := by
  have hll := hr.ilen
  have HL := Lib.hid hll
  cases hi : inB (n : Int) 1 12
  · have hk : wtB L = false := by simp [wtB, hll, hi]
    rw [hk]
    clear hll
    go_enter Try.func17, Try.ntmps17
    go_wp2_with fail
    refine (upToW_any _ _ _).mono ?_; rintro e wx ⟨rfl, rfl⟩
    rw [hi]
    go_wp2
    go_ret
    exact ⟨rfl, Below.refl _ _⟩
  · have hk : wtB L = allIn 1 1000 L := by simp [wtB, hll, hi]
    rw [hk]
    clear hll hk
    go_enter Try.func17, Try.ntmps17
    go_wp2_with fail
    refine (upToW_any _ _ _).mono ?_; rintro e wx ⟨rfl, rfl⟩
    rw [hi]
    go_wp2
    go_loop [11] (fun i => ∃ k : Nat, k ≤ n ∧ i = .int .i64 k ∧ Hid (allIn 1 1000 (L.take k) = true)) (fun i => n - (intOf i).toNat)
    case atStart => exact ⟨0, Nat.zero_le _, rfl, by simp [Hid, allIn]⟩
    case round =>
      obtain ⟨k, hk, rfl, hA⟩ := hrel
      by_cases hlt : k < n
      · obtain ⟨bb, o, rfl, hbl, hx, p1⟩ := hr.num hlt
        have HS := Lib.hid (allIn_take (a := 1) (b := 1000) hx)
        have HNo : Hid (inB L[k] 1 1000 = false → allIn 1 1000 L = false) := fun h => allIn_no hx h
        generalize L[k] = x at *
        cases hb : inB x 1 1000
        · have HF := Lib.hid (HNo.out hb)
          go_wp2_with fail
          refine (upToW_any _ _ _).mono ?_; rintro e wx ⟨rfl, rfl⟩
          rw [hb]
          go_wp2
          go_ret
          exact ⟨ret_bool HF.out.symm, Below.refl _ _⟩
        · have hA2 := HS.out
          rw [hb, hA.out] at hA2
          have HA2 := Lib.hid hA2
          clear hA2
          go_wp2_with fail
          refine (upToW_any _ _ _).mono ?_; rintro e wx ⟨rfl, rfl⟩
          rw [hb]
          go_wp2
          go_round
          case rel => exact ⟨k + 1, by omega, by go_num, HA2⟩
          case measure => simp [intOf]; omega
      · go_wp2
        go_ret
        have hA := hA.out
        rw [List.take_of_length_le (by rw [HL.out]; omega)] at hA
        exact ⟨ret_bool hA.symm, Below.refl _ _⟩

set_option maxHeartbeats 400000 in
theorem sumOfW_any (A : Option Addr) (n c : Nat) (l : List Int) (w : World) (hr : Rd w 1 A n (intCells l)) (hn : n ≤ 1000) (hl : ∀ z ∈ l, 0 ≤ z ∧ z ≤ 1000) :
    Calls Try.prog 70 #[.slice A n c] w fun e w' => e = .returned (.int .i64 l.sum) ∧ w = w' := by
  have hll := hr.ilen
  have HLL := Lib.hid hll
  have HL := Lib.hid hl
  clear hll hl
  go_enter Try.func70, Try.ntmps70
  go_wp2
  go_loop [3, 8] (fun s i => ∃ k : Nat, k ≤ n ∧ i = .int .i64 k ∧ s = .int .i64 (l.take k).sum) (fun _ i => n - (intOf i).toNat)
  case atStart => exact ⟨0, Nat.zero_le _, rfl, by simp⟩
  case round =>
    obtain ⟨k, hk, rfl, rfl⟩ := hrel
    by_cases hlt : k < n
    · obtain ⟨b1, o1, rfl, _, hx, p1⟩ := hr.num hlt
      have b2 := sumW_bound (l := l.take k) (fun z hz => HL.out z (List.mem_of_mem_take hz))
      have b3 := HL.out _ (List.getElem_mem hx)
      have b4 : (l.take k).length ≤ 1000 := by rw [List.length_take]; omega
      have HS := Lib.hid (sum_takeW hx)
      generalize (l.take k).sum = S at *
      generalize l[k] = z at *
      go_wp2
      go_round
      case rel => exact ⟨k + 1, by omega, by go_num, by rw [HS.out]⟩
      case measure => simp [intOf]; omega
    · go_wp2
      go_ret
      have : k = n := by omega
      subst this
      exact ⟨ret_int (by rw [List.take_of_length_le (by rw [HLL.out]; exact Nat.le_refl _)]), rfl⟩

set_option maxHeartbeats 400000 in
theorem skSum_any (A : Option Addr) (n c : Nat) (l : List Int) (w : World) (hr : Rd w 1 A n (intCells l)) (hn : n ≤ 1000) (hl : ∀ z ∈ l, 0 ≤ z ∧ z ≤ 1000) :
    Calls Try.prog 50 #[.slice A n c] w fun e w' => e = .returned (.int .i64 l.sum) ∧ w = w' := by
  have hll := hr.ilen
  have HLL := Lib.hid hll
  have HL := Lib.hid hl
  clear hll hl
  go_enter Try.func50, Try.ntmps50
  go_wp2
  go_loop [3, 8] (fun s i => ∃ k : Nat, k ≤ n ∧ i = .int .i64 k ∧ s = .int .i64 (l.take k).sum) (fun _ i => n - (intOf i).toNat)
  case atStart => exact ⟨0, Nat.zero_le _, rfl, by simp⟩
  case round =>
    obtain ⟨k, hk, rfl, rfl⟩ := hrel
    by_cases hlt : k < n
    · obtain ⟨b1, o1, rfl, _, hx, p1⟩ := hr.num hlt
      have b2 := sumW_bound (l := l.take k) (fun z hz => HL.out z (List.mem_of_mem_take hz))
      have b3 := HL.out _ (List.getElem_mem hx)
      have b4 : (l.take k).length ≤ 1000 := by rw [List.length_take]; omega
      have HS := Lib.hid (sum_takeW hx)
      generalize (l.take k).sum = S at *
      generalize l[k] = z at *
      go_wp2
      go_round
      case rel => exact ⟨k + 1, by omega, by go_num, by rw [HS.out]⟩
      case measure => simp [intOf]; omega
    · go_wp2
      go_ret
      have : k = n := by omega
      subst this
      exact ⟨ret_int (by rw [List.take_of_length_le (by rw [HLL.out]; exact Nat.le_refl _)]), rfl⟩

end Go.Proofs.Ytkijcpbjjbhnhaa
