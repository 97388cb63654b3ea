/-
  Contracts: whether tasters and rounds are enough; TastersFor and BitterRounds of the program and of the model. Conditions: none.
-/
import Derived.Test.YtcggiekhlophlaaPral
namespace Go.Proofs.Ytcggiekhlophlaa
open Go.RowKit
set_option linter.unusedVariables false
set_option linter.unusedSimpArgs false

theorem mpOk_nat {t r : Int} (h : mpOk t r = true) : ∃ T R : Nat, t = T ∧ r = R ∧ 1 ≤ T ∧ T ≤ 20 ∧ 1 ≤ R ∧ R ≤ 20 ∧ mpN (T : Int) (R : Int) = (roomN R T : Nat) := by
  have h' := h
  simp only [mpOk, Bool.and_eq_true] at h'
  obtain ⟨T, rfl, t1, t2⟩ := inB_nat (m := 20) h'.1
  obtain ⟨R, rfl, r1, r2⟩ := inB_nat (m := 20) h'.2
  exact ⟨T, R, rfl, rfl, t1, t2, r1, r2, by simp [mpN, h]⟩
theorem mpN_le (t r : Int) : 0 ≤ mpN t r ∧ mpN t r ≤ 1000000 := by
  cases h : mpOk t r
  · rw [mpN_no h]; omega
  · obtain ⟨T, R, rfl, rfl, _, _, _, _, e⟩ := mpOk_nat h
    rw [e]; have := roomN_le R T; omega

set_option maxHeartbeats 1000000 in
theorem canBe_any (p t r : Int) (w : World) :
    Calls Try.prog 53 #[.int .i64 p, .int .i64 t, .int .i64 r] w fun e w' => e = .returned (.bool (beB p t r)) ∧ Below w.heap.size w w' := by
  have HM := Lib.hid (fun wx => most_any t r wx)
  have hle := mpN_le t r
  cases h : mpOk t r
  · rw [show beB p t r = false by simp [beB, h]]
    rw [h] at HM
    generalize mpN t r = m at *
    go_enter Try.func53, Try.ntmps53
    go_wp2_with fail
    refine (HM.out _).mono ?_; rintro e w1 ⟨rfl, hb1⟩; have s1 := hb1.size; obtain ⟨hc1, hf1⟩ := bcell hb1
    go_wp2
    go_ret
    exact ⟨rfl, by (repeat (first | (with_reducible exact Below.refl _ _) | (with_reducible assumption) | (with_reducible refine Below.drew ?_) | ((with_reducible refine balloc ?_ _ ?_); · (first | (simp; done) | (simp; omega) | omega)) | ((with_reducible refine bset ?_ _ ?_); · (first | (simp; done) | (simp; omega) | omega)) | (with_reducible refine bdrewN _ ?_) | ((with_reducible refine bcall ?_ (by assumption) ?_); · (first | (simp; done) | (simp; omega) | omega))))⟩
  · rw [h] at HM
    cases h2 : inB p 1 (mpN t r)
    all_goals
      first | rw [show beB p t r = false by simp [beB, h, inB] at *; omega] | rw [show beB p t r = true by simp [beB, h, inB] at *; omega]
      generalize mpN t r = m at *
      go_enter Try.func53, Try.ntmps53
      go_wp2_with fail
      refine (HM.out _).mono ?_; rintro e w1 ⟨rfl, hb1⟩; have s1 := hb1.size; obtain ⟨hc1, hf1⟩ := bcell hb1
      go_wp2_with (go_at_call 46; refine (upTo_any _ _ _).mono ?_; rintro e wx ⟨rfl, rfl⟩; rw [h2])
      go_ret
      exact ⟨rfl, by (repeat (first | (with_reducible exact Below.refl _ _) | (with_reducible assumption) | (with_reducible refine Below.drew ?_) | ((with_reducible refine balloc ?_ _ ?_); · (first | (simp; done) | (simp; omega) | omega)) | ((with_reducible refine bset ?_ _ ?_); · (first | (simp; done) | (simp; omega) | omega)) | (with_reducible refine bdrewN _ ?_) | ((with_reducible refine bcall ?_ (by assumption) ?_); · (first | (simp; done) | (simp; omega) | omega))))⟩

set_option maxHeartbeats 1000000 in
theorem bxEnough_any (p t r : Int) (w : World) :
    Calls Try.prog 51 #[.int .i64 p, .int .i64 t, .int .i64 r] w fun e w' => e = .returned (.bool (beB p t r)) ∧ w = w' := by
  cases h1 : inB p 1 1000000
  · rw [show beB p t r = false by simp [beB, h1]]
    go_enter Try.func51, Try.ntmps51
    go_wp2_with (go_at_call 43; refine (bxPralines_any _ _).mono ?_; rintro e wx ⟨rfl, rfl⟩; rw [h1])
    go_ret
    exact ⟨rfl, rfl⟩
  · cases h2 : mpOk t r
    · rw [show beB p t r = false by simp [beB, h2]]
      go_enter Try.func51, Try.ntmps51
      go_wp2_with first | (go_at_call 43; refine (bxPralines_any _ _).mono ?_; rintro e wx ⟨rfl, rfl⟩; rw [h1]) | (go_at_call 50; refine (bxBoth_any _ _ _).mono ?_; rintro e wx ⟨rfl, rfl⟩; rw [h2])
      go_ret
      exact ⟨rfl, rfl⟩
    · obtain ⟨T, R, rfl, rfl, t1, t2, r1, r2, e⟩ := mpOk_nat h2
      have HM := Lib.hid (fun wx => bxRoom_any T R t2 (by omega) wx)
      have HB : beB p (T : Int) (R : Int) = decide (p ≤ (roomN R T : Nat)) := by simp [beB, h1, h2, e]
      rw [HB]
      clear HB e
      generalize roomN R T = q at *
      by_cases h3 : p ≤ (q : Int)
      all_goals
        go_enter Try.func51, Try.ntmps51
        go_wp2_with first | (go_at_call 43; refine (bxPralines_any _ _).mono ?_; rintro e wx ⟨rfl, rfl⟩; rw [h1]) | (go_at_call 50; refine (bxBoth_any _ _ _).mono ?_; rintro e wx ⟨rfl, rfl⟩; rw [h2]) | (go_at_call 45; refine (HM.out _).mono ?_; rintro e wx ⟨rfl, rfl⟩)
        go_ret
        exact ⟨by simp [h3], rfl⟩

theorem beB_true {p t r : Int} (h : beB p t r = true) : 1 ≤ p ∧ p ≤ 1000000 ∧ mpOk t r = true ∧ p ≤ mpN t r := by
  simp only [beB, Bool.and_eq_true, decide_eq_true_eq] at h
  have := inB_true h.1
  exact ⟨this.1, this.2, h.2.1, h.2.2⟩
theorem beB_nat {p t r : Int} (h : beB p t r = true) : ∃ P T R : Nat, p = P ∧ t = T ∧ r = R ∧ 1 ≤ P ∧ P ≤ 1000000 ∧ 1 ≤ T ∧ T ≤ 20 ∧ 1 ≤ R ∧ R ≤ 20 ∧ P ≤ roomN R T := by
  obtain ⟨h1, h2, h3, h4⟩ := beB_true h
  obtain ⟨T, R, rfl, rfl, t1, t2, r1, r2, e⟩ := mpOk_nat h3
  rw [e] at h4
  exact ⟨p.toNat, T, R, by omega, rfl, rfl, by omega, by omega, t1, t2, r1, r2, by omega⟩

set_option maxHeartbeats 1000000 in
theorem bitter_any (p t r : Int) (w : World) :
    Calls Try.prog 32 #[.int .i64 p, .int .i64 t, .int .i64 r] w fun e w' => e = .returned (.tuple #[.int .i64 (brN p t r), .bool (beB p t r)]) ∧ Below w.heap.size w w' := by
  cases h : beB p t r
  · rw [show brN p t r = 0 by simp [brN, h]]
    go_enter Try.func32, Try.ntmps32
    go_wp2_with fail
    refine (canBe_any _ _ _ _).mono ?_; rintro e w1 ⟨rfl, hb1⟩; have s1 := hb1.size; obtain ⟨hc1, hf1⟩ := bcell hb1
    rw [h]
    go_wp2
    go_ret2
    exact ⟨rfl, by (repeat (first | (with_reducible exact Below.refl _ _) | (with_reducible assumption) | (with_reducible refine Below.drew ?_) | ((with_reducible refine balloc ?_ _ ?_); · (first | (simp; done) | (simp; omega) | omega)) | ((with_reducible refine bset ?_ _ ?_); · (first | (simp; done) | (simp; omega) | omega)) | (with_reducible refine bdrewN _ ?_) | ((with_reducible refine bcall ?_ (by assumption) ?_); · (first | (simp; done) | (simp; omega) | omega))))⟩
  · rw [show brN p t r = min (p - 1) r by simp [brN, h]]
    obtain ⟨P, T, R, rfl, rfl, rfl, p1, p2, t1, t2, r1, r2, pr⟩ := beB_nat h
    clear pr
    by_cases hx : (P : Int) - 1 ≤ R
    all_goals
      first | rw [Int.min_eq_left hx] | rw [Int.min_eq_right (show (R : Int) ≤ (P : Int) - 1 by omega)]
      go_enter Try.func32, Try.ntmps32
      go_wp2_with fail
      refine (canBe_any _ _ _ _).mono ?_; rintro e w1 ⟨rfl, hb1⟩; have s1 := hb1.size; obtain ⟨hc1, hf1⟩ := bcell hb1
      rw [h]
      go_wp2
      go_ret2
      exact ⟨rfl, by (repeat (first | (with_reducible exact Below.refl _ _) | (with_reducible assumption) | (with_reducible refine Below.drew ?_) | ((with_reducible refine balloc ?_ _ ?_); · (first | (simp; done) | (simp; omega) | omega)) | ((with_reducible refine bset ?_ _ ?_); · (first | (simp; done) | (simp; omega) | omega)) | (with_reducible refine bdrewN _ ?_) | ((with_reducible refine bcall ?_ (by assumption) ?_); · (first | (simp; done) | (simp; omega) | omega))))⟩

set_option maxHeartbeats 1000000 in
theorem sBitter_any (p t r : Int) (w : World) :
    Calls Try.prog 31 #[.int .i64 p, .int .i64 t, .int .i64 r] w fun e w' => e = .returned (.tuple #[.int .i64 (brN p t r), .bool (beB p t r)]) ∧ Below w.heap.size w w' := by
  cases h : beB p t r
  · rw [show brN p t r = 0 by simp [brN, h]]
    go_enter Try.func31, Try.ntmps31
    go_wp2_with (go_at_call 51; refine (bxEnough_any _ _ _ _).mono ?_; rintro e wx ⟨rfl, rfl⟩; rw [h])
    go_ret2
    exact ⟨rfl, Below.refl _ _⟩
  · rw [show brN p t r = min (p - 1) r by simp [brN, h]]
    obtain ⟨P, T, R, rfl, rfl, rfl, p1, p2, t1, t2, r1, r2, pr⟩ := beB_nat h
    clear pr
    go_enter Try.func31, Try.ntmps31
    go_wp2_with first | (go_at_call 51; refine (bxEnough_any _ _ _ _).mono ?_; rintro e wx ⟨rfl, rfl⟩; rw [h]) | (go_at_call 57; refine (l1Least_min _ _ _).mono ?_; rintro e wx ⟨rfl, rfl⟩)
    go_ret2
    exact ⟨rfl, Below.refl _ _⟩

theorem tfOk_cases {p : Prop} (t r : Int) (h1 : inB t 1 1000000 = false → tfOk t r = false → p) (h2 : inB t 1 1000000 = true → inB r 1 20 = false → tfOk t r = false → p) (h3 : inB t 1 1000000 = true → inB r 1 20 = true → tfOk t r = true → p) : p := by
  cases a : inB t 1 1000000
  · exact h1 a (by simp [tfOk, a])
  · cases b : inB r 1 20
    · exact h2 a b (by simp [tfOk, b])
    · exact h3 a b (by simp [tfOk, a, b])
theorem tfOk_nat {t r : Int} (h : tfOk t r = true) : ∃ T R : Nat, t = T ∧ r = R ∧ 1 ≤ T ∧ T ≤ 1000000 ∧ 1 ≤ R ∧ R ≤ 20 := by
  simp only [tfOk, Bool.and_eq_true] at h
  obtain ⟨T, rfl, t1, t2⟩ := inB_nat (m := 1000000) h.1
  obtain ⟨R, rfl, r1, r2⟩ := inB_nat (m := 20) h.2
  exact ⟨T, R, rfl, rfl, t1, t2, r1, r2⟩
theorem tfN_no {t r : Int} (h : tfOk t r = false) : tfN t r = 0 := by simp [tfN, h]
theorem tfN_yes {T R : Nat} (h : tfOk (T : Int) (R : Int) = true) : tfN (T : Int) (R : Int) = (tfV T R : Nat) := by simp [tfN, h]

set_option maxHeartbeats 1000000 in
theorem tasters_any (p r : Int) (w : World) :
    Calls Try.prog 16 #[.int .i64 p, .int .i64 r] w fun e w' => e = .returned (.tuple #[.int .i64 (tfN p r), .bool (tfOk p r)]) ∧ Below w.heap.size w w' := by
  refine tfOk_cases p r (fun h1 h => ?_) (fun h1 h2 h => ?_) (fun h1 h2 h => ?_)
  case refine_3 =>
    obtain ⟨P, R, rfl, rfl, p1, p2, r1, r2⟩ := tfOk_nat h
    rw [tfN_yes h, h]
    have HP2 := Lib.hid p2
    clear h p2
    go_enter Try.func16, Try.ntmps16
    go_wp2_with (go_at_call 46; refine (upTo_any _ _ _).mono ?_; rintro e wx ⟨rfl, rfl⟩; first | rw [h1] | rw [h2])
    go_loop [6] (fun i => ∃ k : Nat, k ≤ 20 ∧ i = .int .i64 k ∧ Hid (∀ j, j < k → roomN R j < P)) (fun i => 20 - (intOf i).toNat)
    case atStart => exact ⟨0, Nat.zero_le _, rfl, fun j hj => by omega⟩
    case round =>
      obtain ⟨k, hk, rfl, hj⟩ := hrel
      have HM := Lib.hid (fun wx => mostP_any k R hk (by omega) wx)
      by_cases hlt : roomN R k < P
      · have hk20 : k < 20 := by
          have := HP2.out
          have : k ≠ 20 := by rintro rfl; rw [roomN_20 r1 (Nat.le_refl _)] at hlt; omega
          omega
        have hj2 : Hid (∀ j, j < k + 1 → roomN R j < P) := fun j hjj => by
          by_cases e : j = k
          · rw [e]; exact hlt
          · exact hj.out j (by omega)
        have hli : ((roomN R k : Nat) : Int) < (P : Int) := by omega
        clear hlt hj
        generalize roomN R k = m at HM hli
        go_wp2_with (go_at_call 47; refine (HM.out _).mono ?_; rintro e wx ⟨rfl, rfl⟩)
        go_round
        case rel => exact ⟨k + 1, by omega, by go_num, hj2⟩
        case measure => simp [intOf]; omega
      · have HT := Lib.hid (tfV_eq r1 HP2.out hk hj.out (by omega : P ≤ roomN R k))
        have hli : ¬ ((roomN R k : Nat) : Int) < (P : Int) := by omega
        clear hlt hj
        generalize roomN R k = m at HM hli
        go_wp2_with (go_at_call 47; refine (HM.out _).mono ?_; rintro e wx ⟨rfl, rfl⟩)
        go_ret2
        exact ⟨by rw [HT.out]; rfl, Below.refl _ _⟩
  all_goals
    rw [tfN_no h, h]
    go_enter Try.func16, Try.ntmps16
    go_wp2_with (go_at_call 46; refine (upTo_any _ _ _).mono ?_; rintro e wx ⟨rfl, rfl⟩; first | rw [h1] | rw [h2])
    go_ret2
    exact ⟨rfl, Below.refl _ _⟩

set_option maxHeartbeats 1000000 in
theorem sTasters_any (p r : Int) (w : World) :
    Calls Try.prog 15 #[.int .i64 p, .int .i64 r] w fun e w' => e = .returned (.tuple #[.int .i64 (tfN p r), .bool (tfOk p r)]) ∧ Below w.heap.size w w' := by
  refine tfOk_cases p r (fun h1 h => ?_) (fun h1 h2 h => ?_) (fun h1 h2 h => ?_)
  case refine_3 =>
    obtain ⟨P, R, rfl, rfl, p1, p2, r1, r2⟩ := tfOk_nat h
    rw [tfN_yes h, h]
    have HP2 := Lib.hid p2
    clear h p2
    go_enter Try.func15, Try.ntmps15
    go_wp2_with first | (go_at_call 43; refine (bxPralines_any _ _).mono ?_; rintro e wx ⟨rfl, rfl⟩; rw [h1]) | (go_at_call 44; refine (l1In_any _ _ _ _).mono ?_; rintro e wx ⟨rfl, rfl⟩; first | rw [h1] | rw [h2])
    go_loop [6] (fun i => ∃ k : Nat, k ≤ 20 ∧ i = .int .i64 k ∧ Hid (∀ j, j < k → roomN R j < P)) (fun i => 20 - (intOf i).toNat)
    case atStart => exact ⟨0, Nat.zero_le _, rfl, fun j hj => by omega⟩
    case round =>
      obtain ⟨k, hk, rfl, hj⟩ := hrel
      have HM := Lib.hid (fun wx => bxRoom_any k R hk (by omega) wx)
      by_cases hlt : roomN R k < P
      · have hk20 : k < 20 := by
          have := HP2.out
          have : k ≠ 20 := by rintro rfl; rw [roomN_20 r1 (Nat.le_refl _)] at hlt; omega
          omega
        have hj2 : Hid (∀ j, j < k + 1 → roomN R j < P) := fun j hjj => by
          by_cases e : j = k
          · rw [e]; exact hlt
          · exact hj.out j (by omega)
        have hli : ((roomN R k : Nat) : Int) < (P : Int) := by omega
        clear hlt hj
        generalize roomN R k = m at HM hli
        go_wp2_with (go_at_call 45; refine (HM.out _).mono ?_; rintro e wx ⟨rfl, rfl⟩)
        go_round
        case rel => exact ⟨k + 1, by omega, by go_num, hj2⟩
        case measure => simp [intOf]; omega
      · have HT := Lib.hid (tfV_eq r1 HP2.out hk hj.out (by omega : P ≤ roomN R k))
        have hli : ¬ ((roomN R k : Nat) : Int) < (P : Int) := by omega
        clear hlt hj
        generalize roomN R k = m at HM hli
        go_wp2_with (go_at_call 45; refine (HM.out _).mono ?_; rintro e wx ⟨rfl, rfl⟩)
        go_ret2
        exact ⟨by rw [HT.out]; rfl, Below.refl _ _⟩
  all_goals
    rw [tfN_no h, h]
    go_enter Try.func15, Try.ntmps15
    go_wp2_with first | (go_at_call 43; refine (bxPralines_any _ _).mono ?_; rintro e wx ⟨rfl, rfl⟩; rw [h1]) | (go_at_call 44; refine (l1In_any _ _ _ _).mono ?_; rintro e wx ⟨rfl, rfl⟩; first | rw [h1] | rw [h2])
    go_ret2
    exact ⟨rfl, Below.refl _ _⟩

end Go.Proofs.Ytcggiekhlophlaa
