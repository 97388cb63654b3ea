/-
  Contracts: which lists of numbers are chomps (the model's cmGood, the program's chompOf), their sums.
-/
import Derived.Test.YtghlgmbekgfmnaaChW
import Derived.Test.YtghlgmbekgfmnaaOpenI
namespace Go.Proofs.Ytghlgmbekgfmnaa
open Go.RowKit
set_option linter.unusedVariables false

set_option maxRecDepth 100000 in
set_option maxHeartbeats 1000000 in
theorem l1All_any (A : Option Addr) (n c : Nat) (l : List Int) (a b : Int) (w : World) (hr : Rd w 1 A n (intCells l)) (hn : n ≤ 1000000000) :
    Calls Try.prog 110 #[.slice A n c, .int .i64 a, .int .i64 b] w fun e w' => e = .returned (.bool (decide (∀ k, k < l.length → a ≤ l.getD k 0 ∧ l.getD k 0 ≤ b))) ∧ w = w' := by
  have hll := hr.ilen
  have HLL := Lib.hid hll
  clear hll
  go_enter Try.func110, Try.ntmps110
  go_wp2
  go_loop [11] (fun i => ∃ k : Nat, k ≤ n ∧ i = .int .i64 k ∧ Hid (∀ j, j < k → a ≤ l.getD j 0 ∧ l.getD j 0 ≤ b)) (fun i => n - (intOf i).toNat)
  case atStart => exact ⟨0, Nat.zero_le _, rfl, fun j hj => absurd hj (by omega)⟩
  case round =>
    obtain ⟨k, hk, rfl, hT⟩ := hrel
    by_cases hlt : k < n
    · obtain ⟨b1, o1, rfl, _, hx, p1⟩ := hr.num hlt
      have hq : l.getD k 0 = l[k] := getD_lt hx
      have HQ := Lib.hid hq
      have HX := Lib.hid hx
      clear hq
      generalize l[k] = z at *
      by_cases h1 : a ≤ z ∧ z ≤ b
      · have hb : inB z a b = true := by simp [inB]; omega
        have H1 := Lib.hid h1
        clear h1 hx
        go_wp2_with fail
        refine (l1In_any _ _ _ _).mono ?_; rintro e wx ⟨rfl, rfl⟩
        go_wp2
        go_round
        case rel => exact ⟨k + 1, by omega, by go_num, fun j hj => by
          by_cases e : j = k
          · subst e; rw [HQ.out]; exact H1.out
          · exact hT.out j (by omega)⟩
        case measure => simp [intOf]; omega
      · have hb : inB z a b = false := by simp [inB]; omega
        have H1 := Lib.hid h1
        clear h1 hx
        go_wp2_with fail
        refine (l1In_any _ _ _ _).mono ?_; rintro e wx ⟨rfl, rfl⟩
        go_wp2
        go_ret
        refine ⟨ret_bool (Eq.symm (decide_eq_false fun h => H1.out ?_)), rfl⟩
        have := h k HX.out
        rwa [HQ.out] at this
    · go_wp2
      go_ret
      have : k = n := by omega
      subst this
      exact ⟨ret_bool (Eq.symm (decide_eq_true fun j hj => hT.out j (by have := HLL.out; omega))), rfl⟩

set_option maxRecDepth 100000 in
set_option maxHeartbeats 1000000 in
theorem cmGood_any (A : Option Addr) (n c : Nat) (l : List Int) (w : World) (hr : Rd w 1 A n (intCells l)) (hn : n ≤ 1000000000) :
    Calls Try.prog 93 #[.slice A n c] w fun e w' => e = .returned (.bool (chB l)) ∧ Below w.heap.size w w' := by
  have hll := hr.ilen
  have HLL := Lib.hid hll
  by_cases h1 : 1 ≤ l.length ∧ l.length ≤ 6
  · have hb : inB (n : Int) 1 6 = true := by simp [inB]; omega
    by_cases h2 : ∀ k, k < l.length → 1 ≤ l.getD k 0 ∧ l.getD k 0 ≤ 6
    · have hd : decide (∀ k, k < l.length → 1 ≤ l.getD k 0 ∧ l.getD k 0 ≤ 6) = true := decide_eq_true h2
      have HAL : ∀ wx, Rd wx 1 A n (intCells l) → Calls Try.prog 110 #[.slice A n c, .int .i64 1, .int .i64 6] wx fun e w' => e = .returned (.bool true) ∧ wx = w' := fun wx hx => by
        have h := l1All_any A n c l 1 6 wx hx hn
        rw [hd] at h
        exact h
      have H1 := Lib.hid h1
      have H2 := Lib.hid h2
      have h1n : 1 ≤ n ∧ n ≤ 6 := by omega
      obtain ⟨n1, n6⟩ := h1n
      have HA2 := Lib.hid HAL
      clear hd h2 h1 HAL hll
      go_enter Try.func93, Try.ntmps93
      go_wp2_with fail
      refine (l1In_any _ _ _ _).mono ?_; rintro e wx ⟨rfl, rfl⟩
      go_wp2_with fail
      refine (HA2.out _ hr).mono ?_; rintro e wx ⟨rfl, rfl⟩
      go_wp2
      go_loopw [3] (fun i wr => ∃ k : Nat, 1 ≤ k ∧ k ≤ n ∧ i = .int .i64 k ∧ Hid (∀ j, 1 ≤ j → j < k → l.getD j 0 ≤ l.getD (j - 1) 0) ∧ Below w.heap.size w wr) (fun i _ => n - (intOf i).toNat)
      case atStart => exact ⟨1, Nat.le_refl _, n1, rfl, fun j hj hj2 => absurd hj (by omega), Below.refl _ _⟩
      case round =>
        obtain ⟨k, hk1, hk, rfl, hT, hB⟩ := hrel
        by_cases hlt : k < n
        · obtain ⟨b1, o1, e1, _, hx, p1⟩ := (hr.later hB (Nat.le_refl _)).num hlt
          obtain ⟨b2, o2, e2, _, hy, p2⟩ := (hr.later hB (Nat.le_refl _)).num (show k - 1 < n by omega)
          subst e1
          simp only [Option.some.injEq, Addr.mk.injEq, and_true] at e2
          obtain ⟨rfl, rfl⟩ := e2
          have hq : l.getD k 0 = l[k] := getD_lt hx
          have hq2 : l.getD (k - 1) 0 = l[k - 1] := getD_lt hy
          have HQ := Lib.hid hq
          have HQ2 := Lib.hid hq2
          have HX := Lib.hid hx
          clear hq hq2
          generalize l[k] = z at *
          generalize l[k - 1] = y at *
          clear hx hy
          have p2' : wr.cell? ⟨b1, o1 + ((k : Int) - 1).toNat, none⟩ = some (.int .i64 y) := by rw [show ((k : Int) - 1).toNat = k - 1 by omega]; exact p2
          by_cases hs : z ≤ y
          · have HS := Lib.hid hs
            have hbs : decide (y < z) = false := decide_eq_false (by omega)
            go_wp2
            go_quiet (fail)
            go_wp2
            go_roundw
            case rel =>
              refine ⟨k + 1, by omega, by omega, by go_num, fun j hj hj2 => ?_, by (repeat (first | (with_reducible exact Below.refl _ _) | (with_reducible assumption) | (with_reducible refine Below.drew ?_) | ((with_reducible refine balloc ?_ _ ?_); · (first | (simp; done) | (simp; omega) | omega)) | ((with_reducible refine bset ?_ _ ?_); · (first | (simp; done) | (simp; omega) | omega)) | (with_reducible refine bdrewN _ ?_) | ((with_reducible refine bcall ?_ (by assumption) ?_); · (first | (simp; done) | (simp; omega) | omega))))⟩
              by_cases e : j = k
              · subst e; rw [HQ.out, HQ2.out]; exact HS.out
              · exact hT.out j hj (by omega)
            case measure => simp [intOf]; omega
          · have HS := Lib.hid hs
            have hbs : decide (y < z) = true := decide_eq_true (by omega)
            go_wp2
            go_quiet (fail)
            go_wp2
            go_ret
            exact ⟨ret_bool (Eq.symm (chB_not_step HX.out hk1 (by rw [HQ.out, HQ2.out]; omega))), by (repeat (first | (with_reducible exact Below.refl _ _) | (with_reducible assumption) | (with_reducible refine Below.drew ?_) | ((with_reducible refine balloc ?_ _ ?_); · (first | (simp; done) | (simp; omega) | omega)) | ((with_reducible refine bset ?_ _ ?_); · (first | (simp; done) | (simp; omega) | omega)) | (with_reducible refine bdrewN _ ?_) | ((with_reducible refine bcall ?_ (by assumption) ?_); · (first | (simp; done) | (simp; omega) | omega))))⟩
        · go_wp2
          go_ret
          have : k = n := by omega
          subst this
          exact ⟨ret_bool (Eq.symm (chB_of_all H1.out.1 H1.out.2 H2.out fun j hj hj2 => hT.out j hj (by have := HLL.out; omega))), hB⟩
    · have hd : decide (∀ k, k < l.length → 1 ≤ l.getD k 0 ∧ l.getD k 0 ≤ 6) = false := decide_eq_false h2
      have HAL : ∀ wx, Rd wx 1 A n (intCells l) → Calls Try.prog 110 #[.slice A n c, .int .i64 1, .int .i64 6] wx fun e w' => e = .returned (.bool false) ∧ wx = w' := fun wx hx => by
        have h := l1All_any A n c l 1 6 wx hx hn
        rw [hd] at h
        exact h
      have H2 := Lib.hid h2
      have HA2 := Lib.hid HAL
      clear hd h2 HAL
      go_enter Try.func93, Try.ntmps93
      go_wp2_with fail
      refine (l1In_any _ _ _ _).mono ?_; rintro e wx ⟨rfl, rfl⟩
      go_wp2_with fail
      refine (HA2.out _ hr).mono ?_; rintro e wx ⟨rfl, rfl⟩
      go_wp2
      go_ret
      refine ⟨ret_bool (Eq.symm ?_), Below.refl _ _⟩
      rw [chB_false]
      intro q
      exact H2.out fun k hk => ⟨q.ge1 hk, q.le6 k⟩
  · have hb : inB (n : Int) 1 6 = false := by simp [inB]; omega
    have HC := Lib.hid (chB_not_len h1)
    clear h1
    go_enter Try.func93, Try.ntmps93
    go_wp2_with fail
    refine (l1In_any _ _ _ _).mono ?_; rintro e wx ⟨rfl, rfl⟩
    go_wp2
    go_ret
    exact ⟨ret_bool HC.out.symm, Below.refl _ _⟩


end Go.Proofs.Ytghlgmbekgfmnaa
