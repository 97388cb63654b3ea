/-
  Words and contracts: bites: BitesToEat and LeftAfterBites of the program and of the model. Conditions: none.
-/
import Derived.Test.YtkijcpbjjbhnhaaWt
namespace Go.Proofs.Ytkijcpbjjbhnhaa
open Go.RowKit
set_option linter.unusedVariables false
set_option linter.unusedSimpArgs false

/-- what one bite takes -/
def bq (p w : Nat) : Nat := (w + p - 1) / p
theorem bq_pos {p w : Nat} (hp : 2 ≤ p) (hw : 0 < w) : 1 ≤ bq p w := by
  unfold bq
  rw [Nat.le_div_iff_mul_le (by omega)]
  omega
theorem bq_le {p w : Nat} (hp : 2 ≤ p) (hw : 0 < w) : bq p w ≤ w := by
  unfold bq
  rw [Nat.div_le_iff_le_mul_add_pred (by omega)]
  have : 2 * w ≤ p * w := Nat.mul_le_mul_right w hp
  omega
theorem bq_int (p w : Nat) (hp : 1 ≤ p) : ((w : Int) + (p : Int) - 1) / (p : Int) = (bq p w : Int) := by
  unfold bq
  rw [Int.natCast_ediv]
  congr 1
  omega
theorem bq_tint (p w : Nat) (hp : 1 ≤ p) : ((w : Int) + (p : Int) - 1).tdiv (p : Int) = (bq p w : Int) := by
  rw [Int.tdiv_eq_ediv_of_nonneg (by omega), bq_int p w hp]
/-- after how many bites a bar is eaten -/
def bitG (p w : Nat) : Nat := if h : 0 < w ∧ 2 ≤ p then 1 + bitG p (w - bq p w) else 0
termination_by w
decreasing_by have := bq_pos h.2 h.1; omega
theorem bitG_zero (p : Nat) : bitG p 0 = 0 := by rw [bitG]; simp
theorem bitG_succ {p w : Nat} (hp : 2 ≤ p) (hw : 0 < w) : bitG p w = 1 + bitG p (w - bq p w) := by rw [bitG]; simp [hp, hw]
theorem bitG_le (p : Nat) (hp : 2 ≤ p) : ∀ w, bitG p w ≤ w := by
  intro w
  induction w using Nat.strongRecOn with
  | ind w ih =>
    by_cases hw : 0 < w
    · rw [bitG_succ hp hw]
      have := bq_pos hp hw
      have := ih (w - bq p w) (by omega)
      omega
    · obtain rfl : w = 0 := by omega
      rw [bitG_zero]; omega
/-- what is left after bites -/
def lefG (p : Nat) : Nat → Nat → Nat
  | 0, w => w
  | k + 1, w => lefG p k (w - bq p w)
theorem lefG_eaten (p : Nat) : ∀ k, lefG p k 0 = 0 := by
  intro k
  induction k with
  | zero => rfl
  | succ k ih => rw [lefG, Nat.zero_sub]; exact ih

def ceB (w p : Int) : Bool := inB w 1 1000000 && inB p 2 100
theorem ceB_nat {w p : Int} (h : ceB w p = true) : ∃ W P : Nat, w = W ∧ p = P ∧ 1 ≤ W ∧ W ≤ 1000000 ∧ 2 ≤ P ∧ P ≤ 100 := by
  simp only [ceB, Bool.and_eq_true] at h
  have h1 := inB_trueW h.1
  have h2 := inB_trueW h.2
  exact ⟨w.toNat, p.toNat, by omega, by omega, by omega, by omega, by omega, by omega⟩
def biV (w p : Int) : Int := if ceB w p then (bitG p.toNat w.toNat : Nat) else 0
def leB (w p b : Int) : Bool := ceB w p && inB b 0 1000000
def leV (w p b : Int) : Int := if leB w p b then (lefG p.toNat b.toNat w.toNat : Nat) else 0

set_option maxHeartbeats 1000000 in
theorem canBeEaten_any (a p : Int) (w : World) :
    Calls Try.prog 61 #[.int .i64 a, .int .i64 p] w fun e w' => e = .returned (.bool (ceB a p)) ∧ w = w' := by
  cases h1 : inB a 1 1000000
  · rw [show ceB a p = false by simp [ceB, h1]]
    go_enter Try.func61, Try.ntmps61
    go_wp2_with fail
    refine (upToW_any _ _ _).mono ?_; rintro e wx ⟨rfl, rfl⟩
    rw [h1]
    go_wp2
    go_ret
    exact ⟨rfl, rfl⟩
  · rw [show ceB a p = (decide (2 ≤ p) && decide (p ≤ 100)) by unfold ceB; rw [h1]; simp [inB]]
    by_cases h2 : 2 ≤ p <;> by_cases h3 : p ≤ 100 <;> try omega
    all_goals
      go_enter Try.func61, Try.ntmps61
      go_wp2_with fail
      refine (upToW_any _ _ _).mono ?_; rintro e wx ⟨rfl, rfl⟩
      rw [h1]
      go_wp2
      go_ret
      exact ⟨by first | rfl | simp [h2, h3], rfl⟩

set_option maxHeartbeats 1000000 in
theorem skBite_any (a p : Int) (w : World) :
    Calls Try.prog 60 #[.int .i64 a, .int .i64 p] w fun e w' => e = .returned (.bool (ceB a p)) ∧ w = w' := by
  cases h1 : inB a 1 1000000
  · rw [show ceB a p = false by simp [ceB, h1]]
    go_enter Try.func60, Try.ntmps60
    go_wp2_with fail
    refine (l1In_any _ _ _ _).mono ?_; rintro e wx ⟨rfl, rfl⟩
    rw [h1]
    go_wp2
    go_ret
    exact ⟨rfl, rfl⟩
  · rw [show ceB a p = inB p 2 100 by simp [ceB, h1]]
    go_enter Try.func60, Try.ntmps60
    go_wp2_with fail
    refine (l1In_any _ _ _ _).mono ?_; rintro e wx ⟨rfl, rfl⟩
    rw [h1]
    go_wp2_with fail
    refine (l1In_any _ _ _ _).mono ?_; rintro e wx ⟨rfl, rfl⟩
    go_wp2
    go_ret
    exact ⟨rfl, rfl⟩

set_option maxHeartbeats 1000000 in
theorem leftBehind_any (a p : Nat) (ha : 1 ≤ a) (ha2 : a ≤ 1000000) (hp : 2 ≤ p) (hp2 : p ≤ 100) (w : World) :
    Calls Try.prog 62 #[.int .i64 (a : Int), .int .i64 (p : Int)] w fun e w' => e = .returned (.int .i64 ((a - bq p a : Nat) : Int)) ∧ w = w' := by
  have q1 := bq_le hp (show 0 < a by omega)
  have e1 := bq_int p a (by omega)
  have e2 := bq_tint p a (by omega)
  rw [show ((a - bq p a : Nat) : Int) = (a : Int) - (bq p a : Int) by omega]
  generalize bq p a = q at *
  go_enter Try.func62, Try.ntmps62
  go_wp2
  go_ret
  exact ⟨rfl, rfl⟩

theorem biV_no {a p : Int} (h : ceB a p = false) : biV a p = 0 := by simp [biV, h]
theorem biV_yes {a p : Nat} (h : ceB (a : Int) (p : Int) = true) : biV (a : Int) (p : Int) = (bitG p a : Nat) := by simp [biV, h]

set_option maxHeartbeats 1000000 in
theorem bites_any (a p : Int) (w : World) :
    Calls Try.prog 38 #[.int .i64 a, .int .i64 p] w fun e w' => e = .returned (.tuple #[.int .i64 (biV a p), .bool (ceB a p)]) ∧ Below w.heap.size w w' := by
  cases h : ceB a p
  · rw [biV_no h]
    go_enter Try.func38, Try.ntmps38
    go_wp2_with fail
    refine (canBeEaten_any _ _ _).mono ?_; rintro e wx ⟨rfl, rfl⟩
    rw [h]
    go_wp2
    go_ret2
    exact ⟨rfl, by (repeat (first | (with_reducible exact Below.refl _ _) | (with_reducible assumption) | (with_reducible refine Below.drew ?_) | ((with_reducible refine balloc ?_ _ ?_); · (first | (simp; done) | (simp; omega) | omega)) | ((with_reducible refine bset ?_ _ ?_); · (first | (simp; done) | (simp; omega) | omega)) | (with_reducible refine bdrewN _ ?_) | ((with_reducible refine bcall ?_ (by assumption) ?_); · (first | (simp; done) | (simp; omega) | omega))))⟩
  · obtain ⟨W, P, rfl, rfl, h1, h2, h3, h4⟩ := ceB_nat h
    rw [biV_yes h]
    have hle := bitG_le P h3 W
    go_enter Try.func38, Try.ntmps38
    go_wp2_with fail
    refine (canBeEaten_any _ _ _).mono ?_; rintro e wx ⟨rfl, rfl⟩
    rw [h]
    go_wp2
    clear h
    generalize hM : bitG P W = M at *
    have HM := Lib.hid hM
    clear hM
    go_loop [6, 7] (fun b l => ∃ k x : Nat, x ≤ W ∧ b = .int .i64 k ∧ l = .int .i64 x ∧ Hid (k + bitG P x = M)) (fun _ l => (intOf l).toNat)
    case atStart => exact ⟨0, W, Nat.le_refl _, rfl, rfl, by simp only [Hid]; have := HM.out; omega⟩
    case round =>
      obtain ⟨k, x, hx, rfl, rfl, hT⟩ := hrel
      have hk : k ≤ M := by have := hT.out; omega
      by_cases hlt : 0 < x
      · have hlti : (0 : Int) < (x : Int) := by omega
        have hs := Lib.hid (bitG_succ h3 hlt)
        have hp := bq_pos h3 hlt
        go_wp2_with fail
        refine (leftBehind_any x P (by omega) (by omega) h3 h4 _).mono ?_; rintro e wx ⟨rfl, rfl⟩
        generalize hy : x - bq P x = y at *
        have HY := Lib.hid hy
        have hyx : y < x := by omega
        clear hy hp
        go_wp2
        go_round
        case rel => exact ⟨k + 1, y, by omega, by go_num, rfl, by simp only [Hid]; have a1 := hT.out; have a2 := hs.out; omega⟩
        case measure => simp [intOf]; omega
      · have hlti : ¬ (0 : Int) < (x : Int) := by omega
        have hkM : k = M := by have := hT.out; rw [show x = 0 by omega, bitG_zero] at this; omega
        have HKM := Lib.hid hkM
        clear hkM
        go_wp2
        go_ret2
        exact ⟨by rw [HM.out, ← HKM.out]; rfl, by (repeat (first | (with_reducible exact Below.refl _ _) | (with_reducible assumption) | (with_reducible refine Below.drew ?_) | ((with_reducible refine balloc ?_ _ ?_); · (first | (simp; done) | (simp; omega) | omega)) | ((with_reducible refine bset ?_ _ ?_); · (first | (simp; done) | (simp; omega) | omega)) | (with_reducible refine bdrewN _ ?_) | ((with_reducible refine bcall ?_ (by assumption) ?_); · (first | (simp; done) | (simp; omega) | omega))))⟩

set_option maxHeartbeats 1000000 in
theorem sBites_any (a p : Int) (w : World) :
    Calls Try.prog 37 #[.int .i64 a, .int .i64 p] w fun e w' => e = .returned (.tuple #[.int .i64 (biV a p), .bool (ceB a p)]) ∧ Below w.heap.size w w' := by
  cases h : ceB a p
  · rw [biV_no h]
    go_enter Try.func37, Try.ntmps37
    go_wp2_with fail
    refine (skBite_any _ _ _).mono ?_; rintro e wx ⟨rfl, rfl⟩
    rw [h]
    go_wp2
    go_ret2
    exact ⟨rfl, by (repeat (first | (with_reducible exact Below.refl _ _) | (with_reducible assumption) | (with_reducible refine Below.drew ?_) | ((with_reducible refine balloc ?_ _ ?_); · (first | (simp; done) | (simp; omega) | omega)) | ((with_reducible refine bset ?_ _ ?_); · (first | (simp; done) | (simp; omega) | omega)) | (with_reducible refine bdrewN _ ?_) | ((with_reducible refine bcall ?_ (by assumption) ?_); · (first | (simp; done) | (simp; omega) | omega))))⟩
  · obtain ⟨W, P, rfl, rfl, h1, h2, h3, h4⟩ := ceB_nat h
    rw [biV_yes h]
    have hle := bitG_le P h3 W
    go_enter Try.func37, Try.ntmps37
    go_wp2_with fail
    refine (skBite_any _ _ _).mono ?_; rintro e wx ⟨rfl, rfl⟩
    rw [h]
    go_wp2
    clear h
    generalize hM : bitG P W = M at *
    have HM := Lib.hid hM
    clear hM
    go_loop [0, 6] (fun l b => ∃ k x : Nat, x ≤ W ∧ b = .int .i64 k ∧ l = .int .i64 x ∧ Hid (k + bitG P x = M)) (fun l _ => (intOf l).toNat)
    case atStart => exact ⟨0, W, Nat.le_refl _, rfl, rfl, by simp only [Hid]; have := HM.out; omega⟩
    case round =>
      obtain ⟨k, x, hx, rfl, rfl, hT⟩ := hrel
      have hk : k ≤ M := by have := hT.out; omega
      by_cases hlt : 0 < x
      · have hlti : (0 : Int) < (x : Int) := by omega
        have hs := Lib.hid (bitG_succ h3 hlt)
        have hp := bq_pos h3 hlt
        have hq := bq_le h3 hlt
        have e1 := bq_int P x (by omega)
        have e2 := bq_tint P x (by omega)
        generalize bq P x = q at *
        go_wp2
        go_round
        case rel => exact ⟨k + 1, x - q, by omega, by go_num, by go_num, by simp only [Hid]; have a1 := hT.out; have a2 := hs.out; omega⟩
        case measure => simp [intOf]; omega
      · have hlti : ¬ (0 : Int) < (x : Int) := by omega
        have hkM : k = M := by have := hT.out; rw [show x = 0 by omega, bitG_zero] at this; omega
        have HKM := Lib.hid hkM
        clear hkM
        go_wp2
        go_ret2
        exact ⟨by rw [HM.out, ← HKM.out]; rfl, by (repeat (first | (with_reducible exact Below.refl _ _) | (with_reducible assumption) | (with_reducible refine Below.drew ?_) | ((with_reducible refine balloc ?_ _ ?_); · (first | (simp; done) | (simp; omega) | omega)) | ((with_reducible refine bset ?_ _ ?_); · (first | (simp; done) | (simp; omega) | omega)) | (with_reducible refine bdrewN _ ?_) | ((with_reducible refine bcall ?_ (by assumption) ?_); · (first | (simp; done) | (simp; omega) | omega))))⟩

theorem leV_no {a p b : Int} (h : leB a p b = false) : leV a p b = 0 := by simp [leV, h]
theorem leV_yes {a p b : Nat} (h : leB (a : Int) (p : Int) (b : Int) = true) : leV (a : Int) (p : Int) (b : Int) = (lefG p b a : Nat) := by simp [leV, h]
theorem leB_nat {a p b : Int} (h : leB a p b = true) : ceB a p = true ∧ ∃ b' : Nat, b = b' ∧ b' ≤ 1000000 := by
  simp only [leB, Bool.and_eq_true] at h
  have := inB_trueW h.2
  exact ⟨h.1, b.toNat, by omega, by omega⟩

set_option maxHeartbeats 1000000 in
theorem leftAfter_any (a p b : Int) (w : World) :
    Calls Try.prog 40 #[.int .i64 a, .int .i64 p, .int .i64 b] w fun e w' => e = .returned (.tuple #[.int .i64 (leV a p b), .bool (leB a p b)]) ∧ Below w.heap.size w w' := by
  cases h0 : ceB a p
  · have h : leB a p b = false := by simp [leB, h0]
    rw [leV_no h, h]
    go_enter Try.func40, Try.ntmps40
    go_wp2_with fail
    refine (canBeEaten_any _ _ _).mono ?_; rintro e wx ⟨rfl, rfl⟩
    rw [h0]
    go_wp2
    go_ret2
    exact ⟨rfl, by (repeat (first | (with_reducible exact Below.refl _ _) | (with_reducible assumption) | (with_reducible refine Below.drew ?_) | ((with_reducible refine balloc ?_ _ ?_); · (first | (simp; done) | (simp; omega) | omega)) | ((with_reducible refine bset ?_ _ ?_); · (first | (simp; done) | (simp; omega) | omega)) | (with_reducible refine bdrewN _ ?_) | ((with_reducible refine bcall ?_ (by assumption) ?_); · (first | (simp; done) | (simp; omega) | omega))))⟩
  · by_cases hb0 : b < 0
    · have h : leB a p b = false := by simp [leB, inB]; intro; omega
      rw [leV_no h, h]
      go_enter Try.func40, Try.ntmps40
      go_wp2_with fail
      refine (canBeEaten_any _ _ _).mono ?_; rintro e wx ⟨rfl, rfl⟩
      rw [h0]
      go_wp2
      go_ret2
      exact ⟨rfl, by (repeat (first | (with_reducible exact Below.refl _ _) | (with_reducible assumption) | (with_reducible refine Below.drew ?_) | ((with_reducible refine balloc ?_ _ ?_); · (first | (simp; done) | (simp; omega) | omega)) | ((with_reducible refine bset ?_ _ ?_); · (first | (simp; done) | (simp; omega) | omega)) | (with_reducible refine bdrewN _ ?_) | ((with_reducible refine bcall ?_ (by assumption) ?_); · (first | (simp; done) | (simp; omega) | omega))))⟩
    · by_cases hb1 : 1000000 < b
      · have h : leB a p b = false := by simp [leB, inB]; intro; omega
        rw [leV_no h, h]
        go_enter Try.func40, Try.ntmps40
        go_wp2_with fail
        refine (canBeEaten_any _ _ _).mono ?_; rintro e wx ⟨rfl, rfl⟩
        rw [h0]
        go_wp2
        go_ret2
        exact ⟨rfl, by (repeat (first | (with_reducible exact Below.refl _ _) | (with_reducible assumption) | (with_reducible refine Below.drew ?_) | ((with_reducible refine balloc ?_ _ ?_); · (first | (simp; done) | (simp; omega) | omega)) | ((with_reducible refine bset ?_ _ ?_); · (first | (simp; done) | (simp; omega) | omega)) | (with_reducible refine bdrewN _ ?_) | ((with_reducible refine bcall ?_ (by assumption) ?_); · (first | (simp; done) | (simp; omega) | omega))))⟩
      · have h : leB a p b = true := by simp [leB, inB, h0]; omega
        obtain ⟨B, rfl⟩ : ∃ B : Nat, b = B := ⟨b.toNat, by omega⟩
        obtain ⟨W, P, rfl, rfl, h1, h2, h3, h4⟩ := ceB_nat h0
        rw [leV_yes h, h]
        clear h
        go_enter Try.func40, Try.ntmps40
        go_wp2_with fail
        refine (canBeEaten_any _ _ _).mono ?_; rintro e wx ⟨rfl, rfl⟩
        rw [h0]
        go_wp2
        clear h0
        generalize hM : lefG P B W = M at *
        have HM := Lib.hid hM
        clear hM
        go_loop [2, 8] (fun b l => ∃ k x : Nat, k ≤ B ∧ x ≤ W ∧ b = .int .i64 k ∧ l = .int .i64 x ∧ Hid (lefG P k x = M)) (fun b _ => (intOf b).toNat)
        case atStart => exact ⟨B, W, Nat.le_refl _, Nat.le_refl _, rfl, rfl, HM⟩
        case round =>
          obtain ⟨k, x, hk, hx, rfl, rfl, hT⟩ := hrel
          by_cases hk0 : 0 < k
          · have hk0i : (0 : Int) < (k : Int) := by omega
            by_cases hlt : 0 < x
            · have hlti : (0 : Int) < (x : Int) := by omega
              have hp := bq_pos h3 hlt
              go_wp2_with fail
              refine (leftBehind_any x P (by omega) (by omega) h3 h4 _).mono ?_; rintro e wx ⟨rfl, rfl⟩
              generalize hy : x - bq P x = y at *
              have HY := Lib.hid hy
              have hyx : y < x := by omega
              clear hy hp
              go_wp2
              go_round
              case rel =>
                refine ⟨k - 1, y, by omega, by omega, by go_num, rfl, ?_⟩
                have a1 := hT.out
                rw [show k = k - 1 + 1 by omega, lefG, HY.out] at a1
                exact a1
              case measure => simp [intOf]; omega
            · have hlti : ¬ (0 : Int) < (x : Int) := by omega
              have hkM : x = M := by have := hT.out; rw [show x = 0 by omega, lefG_eaten] at this; omega
              have HKM := Lib.hid hkM
              clear hkM
              go_wp2
              go_ret2
              exact ⟨by rw [HM.out, ← HKM.out]; rfl, by (repeat (first | (with_reducible exact Below.refl _ _) | (with_reducible assumption) | (with_reducible refine Below.drew ?_) | ((with_reducible refine balloc ?_ _ ?_); · (first | (simp; done) | (simp; omega) | omega)) | ((with_reducible refine bset ?_ _ ?_); · (first | (simp; done) | (simp; omega) | omega)) | (with_reducible refine bdrewN _ ?_) | ((with_reducible refine bcall ?_ (by assumption) ?_); · (first | (simp; done) | (simp; omega) | omega))))⟩
          · have hk00 : k = 0 := by omega
            subst hk00
            have hkM : x = M := hT.out
            have HKM := Lib.hid hkM
            clear hkM
            go_wp2
            go_ret2
            exact ⟨by rw [HM.out, ← HKM.out]; rfl, by (repeat (first | (with_reducible exact Below.refl _ _) | (with_reducible assumption) | (with_reducible refine Below.drew ?_) | ((with_reducible refine balloc ?_ _ ?_); · (first | (simp; done) | (simp; omega) | omega)) | ((with_reducible refine bset ?_ _ ?_); · (first | (simp; done) | (simp; omega) | omega)) | (with_reducible refine bdrewN _ ?_) | ((with_reducible refine bcall ?_ (by assumption) ?_); · (first | (simp; done) | (simp; omega) | omega))))⟩

set_option maxHeartbeats 1000000 in
theorem sLeftAfter_any (a p b : Int) (w : World) :
    Calls Try.prog 39 #[.int .i64 a, .int .i64 p, .int .i64 b] w fun e w' => e = .returned (.tuple #[.int .i64 (leV a p b), .bool (leB a p b)]) ∧ Below w.heap.size w w' := by
  cases h0 : ceB a p
  · have h : leB a p b = false := by simp [leB, h0]
    rw [leV_no h, h]
    go_enter Try.func39, Try.ntmps39
    go_wp2_with fail
    refine (skBite_any _ _ _).mono ?_; rintro e wx ⟨rfl, rfl⟩
    rw [h0]
    go_wp2
    go_ret2
    exact ⟨rfl, by (repeat (first | (with_reducible exact Below.refl _ _) | (with_reducible assumption) | (with_reducible refine Below.drew ?_) | ((with_reducible refine balloc ?_ _ ?_); · (first | (simp; done) | (simp; omega) | omega)) | ((with_reducible refine bset ?_ _ ?_); · (first | (simp; done) | (simp; omega) | omega)) | (with_reducible refine bdrewN _ ?_) | ((with_reducible refine bcall ?_ (by assumption) ?_); · (first | (simp; done) | (simp; omega) | omega))))⟩
  · cases hb : inB b 0 1000000
    · have h : leB a p b = false := by simp [leB, hb]
      rw [leV_no h, h]
      go_enter Try.func39, Try.ntmps39
      go_wp2_with fail
      refine (skBite_any _ _ _).mono ?_; rintro e wx ⟨rfl, rfl⟩
      rw [h0]
      go_wp2_with fail
      refine (l1In_any _ _ _ _).mono ?_; rintro e wx ⟨rfl, rfl⟩
      rw [hb]
      go_wp2
      go_ret2
      exact ⟨rfl, by (repeat (first | (with_reducible exact Below.refl _ _) | (with_reducible assumption) | (with_reducible refine Below.drew ?_) | ((with_reducible refine balloc ?_ _ ?_); · (first | (simp; done) | (simp; omega) | omega)) | ((with_reducible refine bset ?_ _ ?_); · (first | (simp; done) | (simp; omega) | omega)) | (with_reducible refine bdrewN _ ?_) | ((with_reducible refine bcall ?_ (by assumption) ?_); · (first | (simp; done) | (simp; omega) | omega))))⟩
    · have h : leB a p b = true := by simp [leB, hb, h0]
      obtain ⟨B, rfl⟩ : ∃ B : Nat, b = B := ⟨b.toNat, by have := inB_trueW hb; omega⟩
      have hB := (inB_trueW hb).2
      obtain ⟨W, P, rfl, rfl, h1, h2, h3, h4⟩ := ceB_nat h0
      rw [leV_yes h, h]
      clear h
      go_enter Try.func39, Try.ntmps39
      go_wp2_with fail
      refine (skBite_any _ _ _).mono ?_; rintro e wx ⟨rfl, rfl⟩
      rw [h0]
      go_wp2_with fail
      refine (l1In_any _ _ _ _).mono ?_; rintro e wx ⟨rfl, rfl⟩
      rw [hb]
      go_wp2
      clear h0 hb
      generalize hM : lefG P B W = M at *
      have HM := Lib.hid hM
      clear hM
      go_loop [0, 2] (fun l b => ∃ k x : Nat, k ≤ B ∧ x ≤ W ∧ b = .int .i64 k ∧ l = .int .i64 x ∧ Hid (lefG P k x = M)) (fun _ b => (intOf b).toNat)
      case atStart => exact ⟨B, W, Nat.le_refl _, Nat.le_refl _, rfl, rfl, HM⟩
      case round =>
        obtain ⟨k, x, hk, hx, rfl, rfl, hT⟩ := hrel
        by_cases hk0 : 0 < k
        · have hk0i : (0 : Int) < (k : Int) := by omega
          by_cases hlt : 0 < x
          · have hlti : (0 : Int) < (x : Int) := by omega
            have hp := bq_pos h3 hlt
            have hq := bq_le h3 hlt
            have e1 := bq_int P x (by omega)
            have e2 := bq_tint P x (by omega)
            have HQ : Hid (lefG P (k - 1) (x - bq P x) = M) := by
              have a1 := hT.out
              rw [show k = k - 1 + 1 by omega, lefG] at a1
              exact a1
            generalize bq P x = q at *
            go_wp2
            go_round
            case rel => exact ⟨k - 1, x - q, by omega, by omega, by go_num, by go_num, HQ⟩
            case measure => simp [intOf]; omega
          · have hlti : ¬ (0 : Int) < (x : Int) := by omega
            have hkM : x = M := by have := hT.out; rw [show x = 0 by omega, lefG_eaten] at this; omega
            have HKM := Lib.hid hkM
            clear hkM
            go_wp2
            go_ret2
            exact ⟨by rw [HM.out, ← HKM.out]; rfl, by (repeat (first | (with_reducible exact Below.refl _ _) | (with_reducible assumption) | (with_reducible refine Below.drew ?_) | ((with_reducible refine balloc ?_ _ ?_); · (first | (simp; done) | (simp; omega) | omega)) | ((with_reducible refine bset ?_ _ ?_); · (first | (simp; done) | (simp; omega) | omega)) | (with_reducible refine bdrewN _ ?_) | ((with_reducible refine bcall ?_ (by assumption) ?_); · (first | (simp; done) | (simp; omega) | omega))))⟩
        · have hk00 : k = 0 := by omega
          subst hk00
          have hkM : x = M := hT.out
          have HKM := Lib.hid hkM
          clear hkM
          go_wp2
          go_ret2
          exact ⟨by rw [HM.out, ← HKM.out]; rfl, by (repeat (first | (with_reducible exact Below.refl _ _) | (with_reducible assumption) | (with_reducible refine Below.drew ?_) | ((with_reducible refine balloc ?_ _ ?_); · (first | (simp; done) | (simp; omega) | omega)) | ((with_reducible refine bset ?_ _ ?_); · (first | (simp; done) | (simp; omega) | omega)) | (with_reducible refine bdrewN _ ?_) | ((with_reducible refine bcall ?_ (by assumption) ?_); · (first | (simp; done) | (simp; omega) | omega))))⟩

end Go.Proofs.Ytkijcpbjjbhnhaa
