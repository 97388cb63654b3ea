/-
  Contract: the model's most nuts that the poorest of so many pieces can have.
-/
import Derived.Test.YtfbmnaepobhnkaaPieceW
import Derived.Test.YtfbmnaepobhnkaaMinMax
import Derived.Test.YtfbmnaepobhnkaaSum
namespace Go.Proofs.Ytfbmnaepobhnkaa
open Go.RowKit
set_option linter.unusedVariables false

set_option maxRecDepth 100000 in
set_option maxHeartbeats 4000000 in
theorem ntPiece_any (A : Option Addr) (n c W : Nat) (ss : List ByteArray) (w : World) (hr : Rd w 1 A n (strCells ss)) (hb : NB ss W n) : ∀ (f x y a b s : Nat) (px py pX pY ps : Int), s ≤ f → px = x → py = y → pX = (x : Int) + a → pY = (y : Int) + b → ps = s → 1 ≤ s → s ≤ 5 → 1 ≤ a → 1 ≤ b → x + a ≤ W → y + b ≤ n →
    Calls Try.prog 34 #[.slice A n c, .int .i64 px, .int .i64 py, .int .i64 pX, .int .i64 pY, .int .i64 ps] w fun e w' => e = .returned (.int .i64 (pc ss x y a b s)) ∧ w = w' := by
  intro f
  induction f with
  | zero => intro x y a b s px py pX pY ps hf _ _ _ _ _ h1; omega
  | succ f ih =>
    intro x y a b s px py pX pY ps hf epx epy epX epY eps hs1 hs5 ha hb2 hx hy
    subst epx epy epX epY eps
    have IH := Lib.hid ih
    clear ih
    have hW8 := hb.w8
    have hn8 := hb.h8
    have hab2 : a * b ≤ 8 * 8 := Nat.mul_le_mul (by omega) (by omega)
    have hp : wrap64 (((x : Int) + a - x) * ((y : Int) + b - y)) = ((a * b : Nat) : Int) := by
      rw [show ((x : Int) + a - x) = a by omega, show ((y : Int) + b - y) = b by omega, ← Int.natCast_mul]
      generalize a * b = m at *
      exact IntWalk.wrap64_in _ (by omega)
    have hst := pc_step ss x y a b s hs1
    unfold stepP at hst
    by_cases h1 : a * b < s
    · rw [if_pos h1] at hst
      rw [hst]
      have h1i : ((a * b : Nat) : Int) < (s : Int) := by omega
      clear hst
      generalize a * b = m at *
      go_enter Try.func34, Try.ntmps34
      go_wp2
      go_ret
      exact ⟨rfl, rfl⟩
    · rw [if_neg h1] at hst
      have h1i : ¬ ((a * b : Nat) : Int) < (s : Int) := by omega
      have h1d : decide (((a * b : Nat) : Int) < (s : Int)) = false := by simpa using h1i
      by_cases h2 : s = 1
      · rw [if_pos h2] at hst
        subst h2
        rw [hst]
        clear hst
        generalize a * b = m at *
        go_enter Try.func34, Try.ntmps34
        go_wp2_with fail
        refine (ntSum_any _ _ _ W ss _ _ _ _ x y a b _ hr hb rfl rfl rfl rfl hx hy).mono ?_; rintro e wx ⟨rfl, rfl⟩
        go_wp2
        go_ret
        exact ⟨rfl, rfl⟩
      · rw [if_neg h2] at hst
        rw [hst]
        have h2i : ((s : Int) == 1) = false := by simp; omega
        have hs2 : 1 < s := by omega
        have hsi : (1 : Int) < (s : Int) := by omega
        have HB1 := Lib.hid (fun (x' a' i : Nat) (q1 : 1 ≤ i) (q2 : 1 ≤ a') (q3 : x' + a' ≤ W) => (⟨pc_ge ss x' y a' b i q1, pc_le hb i x' y a' b i (Nat.le_refl _) q1 q2 hb2 q3 hy⟩ : -1 ≤ pc ss x' y a' b i ∧ pc ss x' y a' b i ≤ 576))
        have HB2 := Lib.hid (fun (y' b' i : Nat) (q1 : 1 ≤ i) (q2 : 1 ≤ b') (q3 : y' + b' ≤ n) => (⟨pc_ge ss x y' a b' i q1, pc_le hb i x y' a b' i (Nat.le_refl _) q1 ha q2 hx q3⟩ : -1 ≤ pc ss x y' a b' i ∧ pc ss x y' a b' i ≤ 576))
        clear hst h2
        generalize a * b = m at *
        go_enter Try.func34, Try.ntmps34
        go_wp2
        go_loop [13, 14] (fun v i => ∃ k : Nat, k + 1 ≤ s ∧ i = .int .i64 ((k : Int) + 1) ∧ v = .int .i64 (someP (pc ss) x y a b s k (-1))) (fun _ i => s + 1 - (intOf i).toNat)
        case atStart => exact ⟨0, by omega, rfl, rfl⟩
        case round =>
          obtain ⟨k, hk, rfl, rfl⟩ := hrel
          by_cases hlt : k + 1 < s
          · have hlti : (k : Int) + 1 < (s : Int) := by omega
            have HS2 : Hid (someP (pc ss) x y a b s (k + 1) (-1) = acrP (pc ss) x y a b (k + 1) (s - (k + 1)) (b - 1) (downP (pc ss) x y a b (k + 1) (s - (k + 1)) (a - 1) (someP (pc ss) x y a b s k (-1)))) := rfl
            generalize someP (pc ss) x y a b s k (-1) = m0 at *
            go_wp2
            go_loop [13, 15] (fun v i => ∃ j : Nat, j + 1 ≤ a ∧ i = .int .i64 ((x : Int) + 1 + j) ∧ v = .int .i64 (downP (pc ss) x y a b (k + 1) (s - (k + 1)) j m0)) (fun _ i => (x + a - intOf i).toNat)
            case atStart => exact ⟨0, ha, by simp, rfl⟩
            case round =>
              obtain ⟨j, hj, rfl, rfl⟩ := hrel
              by_cases hlj : j + 1 < a
              · have hlji : (x : Int) + 1 + j < (x : Int) + a := by omega
                have HD : Hid (downP (pc ss) x y a b (k + 1) (s - (k + 1)) (j + 1) m0 = max (downP (pc ss) x y a b (k + 1) (s - (k + 1)) j m0) (min (pc ss x y (j + 1) b (k + 1)) (pc ss (x + (j + 1)) y (a - (j + 1)) b (s - (k + 1))))) := rfl
                obtain ⟨b11, b12⟩ := HB1.out x (j + 1) (k + 1) (by omega) (by omega) (by omega)
                obtain ⟨b21, b22⟩ := HB1.out (x + (j + 1)) (a - (j + 1)) (s - (k + 1)) (by omega) (by omega) (by omega)
                have I1 := Lib.hid (IH.out x y (j + 1) b (k + 1) x y ((x : Int) + 1 + j) ((y : Int) + b) ((k : Int) + 1) (by omega) rfl rfl (by omega) rfl (by omega) (by omega) (by omega) (by omega) hb2 (by omega) hy)
                have I2 := Lib.hid (IH.out (x + (j + 1)) y (a - (j + 1)) b (s - (k + 1)) ((x : Int) + 1 + j) y ((x : Int) + a) ((y : Int) + b) ((s : Int) - ((k : Int) + 1)) (by omega) (by omega) rfl (by omega) rfl (by omega) (by omega) (by omega) (by omega) hb2 (by omega) hy)
                generalize downP (pc ss) x y a b (k + 1) (s - (k + 1)) j m0 = d at *
                generalize pc ss x y (j + 1) b (k + 1) = f1 at *
                generalize pc ss (x + (j + 1)) y (a - (j + 1)) b (s - (k + 1)) = f2 at *
                by_cases hgt : d < f1
                · go_wp2_with fail
                  refine I1.out.mono ?_; rintro e wx ⟨rfl, rfl⟩
                  go_wp2_with fail
                  refine I2.out.mono ?_; rintro e wx ⟨rfl, rfl⟩
                  go_wp2_with fail
                  refine (l1Least_min _ _ _).mono ?_; rintro e wx ⟨rfl, rfl⟩
                  go_wp2_with fail
                  refine (l1Most_max _ _ _).mono ?_; rintro e wx ⟨rfl, rfl⟩
                  go_wp2
                  go_round
                  case rel => exact ⟨j + 1, by omega, by go_num, by rw [HD.out]⟩
                  case measure => simp [intOf]; omega
                · have hgd : decide (d < f1) = false := by simpa using hgt
                  go_wp2_with fail
                  refine I1.out.mono ?_; rintro e wx ⟨rfl, rfl⟩
                  go_wp2
                  go_round
                  case rel => exact ⟨j + 1, by omega, by go_num, by show Value.int _ _ = Value.int _ _; congr 1; rw [HD.out]; omega⟩
                  case measure => simp [intOf]; omega
              · obtain rfl : a = j + 1 := by omega
                have hnlj : ¬ (x : Int) + 1 + j < (x : Int) + (j + 1 : Nat) := by omega
                clear HB1
                rw [show j + 1 - 1 = j by omega] at HS2
                generalize downP (pc ss) x y (j + 1) b (k + 1) (s - (k + 1)) j m0 = m1 at *
                go_wp2
                go_loop [13, 17] (fun v i => ∃ q : Nat, q + 1 ≤ b ∧ i = .int .i64 ((y : Int) + 1 + q) ∧ v = .int .i64 (acrP (pc ss) x y (j + 1) b (k + 1) (s - (k + 1)) q m1)) (fun _ i => (y + b - intOf i).toNat)
                case atStart => exact ⟨0, hb2, by simp, rfl⟩
                case round =>
                  obtain ⟨q, hq, rfl, rfl⟩ := hrel
                  by_cases hlq : q + 1 < b
                  · have hlqi : (y : Int) + 1 + q < (y : Int) + b := by omega
                    have HD : Hid (acrP (pc ss) x y (j + 1) b (k + 1) (s - (k + 1)) (q + 1) m1 = max (acrP (pc ss) x y (j + 1) b (k + 1) (s - (k + 1)) q m1) (min (pc ss x y (j + 1) (q + 1) (k + 1)) (pc ss x (y + (q + 1)) (j + 1) (b - (q + 1)) (s - (k + 1))))) := rfl
                    have I1 := Lib.hid (IH.out x y (j + 1) (q + 1) (k + 1) x y ((x : Int) + (j + 1 : Nat)) ((y : Int) + 1 + q) ((k : Int) + 1) (by omega) rfl rfl rfl (by omega) (by omega) (by omega) (by omega) (by omega) (by omega) hx (by omega))
                    have I2 := Lib.hid (IH.out x (y + (q + 1)) (j + 1) (b - (q + 1)) (s - (k + 1)) x ((y : Int) + 1 + q) ((x : Int) + (j + 1 : Nat)) ((y : Int) + b) ((s : Int) - ((k : Int) + 1)) (by omega) rfl (by omega) rfl (by omega) (by omega) (by omega) (by omega) (by omega) (by omega) hx (by omega))
                    obtain ⟨b11, b12⟩ := HB2.out y (q + 1) (k + 1) (by omega) (by omega) (by omega)
                    obtain ⟨b21, b22⟩ := HB2.out (y + (q + 1)) (b - (q + 1)) (s - (k + 1)) (by omega) (by omega) (by omega)
                    generalize acrP (pc ss) x y (j + 1) b (k + 1) (s - (k + 1)) q m1 = d at *
                    generalize pc ss x y (j + 1) (q + 1) (k + 1) = f1 at *
                    generalize pc ss x (y + (q + 1)) (j + 1) (b - (q + 1)) (s - (k + 1)) = f2 at *
                    by_cases hgt : d < f1
                    · go_wp2_with fail
                      refine I1.out.mono ?_; rintro e wx ⟨rfl, rfl⟩
                      go_wp2_with fail
                      refine I2.out.mono ?_; rintro e wx ⟨rfl, rfl⟩
                      go_wp2_with fail
                      refine (l1Least_min _ _ _).mono ?_; rintro e wx ⟨rfl, rfl⟩
                      go_wp2_with fail
                      refine (l1Most_max _ _ _).mono ?_; rintro e wx ⟨rfl, rfl⟩
                      go_wp2
                      go_round
                      case rel => exact ⟨q + 1, by omega, by go_num, by rw [HD.out]⟩
                      case measure => simp [intOf]; omega
                    · have hgd : decide (d < f1) = false := by simpa using hgt
                      go_wp2_with fail
                      refine I1.out.mono ?_; rintro e wx ⟨rfl, rfl⟩
                      go_wp2
                      go_round
                      case rel => exact ⟨q + 1, by omega, by go_num, by show Value.int _ _ = Value.int _ _; congr 1; rw [HD.out]; omega⟩
                      case measure => simp [intOf]; omega
                  · obtain rfl : b = q + 1 := by omega
                    have hnlq : ¬ (y : Int) + 1 + q < (y : Int) + (q + 1 : Nat) := by omega
                    go_wp2
                    go_round
                    case rel => exact ⟨k + 1, by omega, by go_num, by rw [HS2.out]; rfl⟩
                    case measure => simp [intOf]; omega
          · obtain rfl : s = k + 1 := by omega
            have hnl : ¬ (k : Int) + 1 < ((k + 1 : Nat) : Int) := by omega
            go_wp2
            go_ret
            exact ⟨rfl, rfl⟩

end Go.Proofs.Ytfbmnaepobhnkaa
