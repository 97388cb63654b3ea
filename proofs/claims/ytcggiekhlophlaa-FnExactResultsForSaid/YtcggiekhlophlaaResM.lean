/-
  Contracts: ResultsFor and LongestResults of the model. Conditions: none.
-/
import Derived.Test.YtcggiekhlophlaaResW
import Derived.Test.YtcggiekhlophlaaMinMax
namespace Go.Proofs.Ytcggiekhlophlaa
open Go.RowKit
set_option linter.unusedVariables false
set_option linter.unusedSimpArgs false

set_option maxRecDepth 100000 in
set_option maxHeartbeats 2000000 in
theorem bxResults_any (P H : Nat) (hP : P ≤ 1000) (hH : H < P) (w : World) :
    Calls Try.prog 63 #[.int .i64 P, .int .i64 H] w fun e w' => e = .returned (.string (txt (rsL P H))) ∧ w = w' := by
  have hHi : (H : Int) ≤ 1000 := by omega
  go_enter Try.func63, Try.ntmps63
  go_wp2
  go_loop [5, 6, 7] (fun s f m => ∃ (F D M : Nat) (out : ByteArray), s = .string out ∧ f = .int .i64 (F : Int) ∧ m = .int .i64 (M : Int) ∧ H = F + D ∧ D < M ∧ M ≤ 1000 ∧ out.size + M ≤ 1000 ∧ Hid (∃ pre, out = txt pre ∧ pre ++ rsL M D = rsL P H)) (fun _ _ m => (intOf m).toNat)
  case atStart => exact ⟨0, H, P, ByteArray.mk #[], rfl, rfl, rfl, by omega, hH, hP, by show 0 + P ≤ 1000; omega, [], rfl, rfl⟩
  case round =>
    obtain ⟨F, D, M, out, rfl, rfl, rfl, hFD, hDM, hM, hsz, hT⟩ := hrel
    have hD : (H : Int) - (F : Int) = (D : Int) := by omega
    have HFD := Lib.hid hFD
    clear hFD
    by_cases h2 : 2 ≤ M
    · have hmi : (M : Int) > 1 := by omega
      have HB := Lib.hid (fun wx => bxPan_any M hM wx)
      have q1 := panN_pos h2
      have q2 := panN_two h2
      have q3 := panN_lt h2
      by_cases c1 : D < panN M
      · have HN : Hid (∃ pre, out ++ ByteArray.mk #[108] = txt pre ∧ pre ++ rsL (panN M) D = rsL P H) := by
          obtain ⟨pre, e, h⟩ := hT.out
          exact ⟨pre ++ [108], by rw [txt_add, e], by rw [← h, rsL_l h2 c1]; simp⟩
        have c1i : (D : Int) < (panN M : Nat) := by omega
        have hs2 : (out ++ ByteArray.mk #[108]).size = out.size + 1 := by rw [ByteArray.size_append]; rfl
        generalize panN M = q at *
        clear hT
        go_wp2_with (go_at_call 59; refine (HB.out _).mono ?_; rintro e wx ⟨rfl, rfl⟩)
        go_round
        case rel => exact ⟨F, D, q, _, rfl, rfl, rfl, HFD.out, c1, by omega, by rw [hs2]; omega, HN⟩
        case measure => simp [intOf]; omega
      · by_cases c2 : D < 2 * panN M
        · have HN : Hid (∃ pre, out ++ ByteArray.mk #[114] = txt pre ∧ pre ++ rsL (panN M) (D - panN M) = rsL P H) := by
            obtain ⟨pre, e, h⟩ := hT.out
            exact ⟨pre ++ [114], by rw [txt_add, e], by rw [← h, rsL_r h2 c1 c2]; simp⟩
          have c1i : ¬ (D : Int) < (panN M : Nat) := by omega
          have c2i : (D : Int) < 2 * (panN M : Nat) := by omega
          have hs2 : (out ++ ByteArray.mk #[114]).size = out.size + 1 := by rw [ByteArray.size_append]; rfl
          generalize panN M = q at *
          clear hT
          go_wp2_with (go_at_call 59; refine (HB.out _).mono ?_; rintro e wx ⟨rfl, rfl⟩)
          go_round
          case rel => exact ⟨F + q, D - q, q, _, rfl, by go_num, rfl, by have := HFD.out; omega, by omega, by omega, by rw [hs2]; omega, HN⟩
          case measure => simp [intOf]; omega
        · have HN : Hid (∃ pre, out ++ ByteArray.mk #[61] = txt pre ∧ pre ++ rsL (M - 2 * panN M) (D - 2 * panN M) = rsL P H) := by
            obtain ⟨pre, e, h⟩ := hT.out
            exact ⟨pre ++ [61], by rw [txt_add, e], by rw [← h, rsL_e h2 c2]; simp⟩
          have c1i : ¬ (D : Int) < (panN M : Nat) := by omega
          have c2i : ¬ (D : Int) < 2 * (panN M : Nat) := by omega
          have hs2 : (out ++ ByteArray.mk #[61]).size = out.size + 1 := by rw [ByteArray.size_append]; rfl
          generalize panN M = q at *
          clear hT
          go_wp2_with (go_at_call 59; refine (HB.out _).mono ?_; rintro e wx ⟨rfl, rfl⟩)
          go_round
          case rel => exact ⟨F + 2 * q, D - 2 * q, M - 2 * q, _, rfl, by (first | (congr 1; done) | (congr 1; omega)), by (first | (congr 1; done) | (congr 1; omega)), by have := HFD.out; omega, by omega, by omega, by rw [hs2]; omega, HN⟩
          case measure => simp [intOf]; omega
    · have hmi : ¬ (M : Int) > 1 := by omega
      have HN : Hid (out = txt (rsL P H)) := by
        obtain ⟨pre, e, h⟩ := hT.out
        rw [rsL_one (by omega), List.append_nil] at h
        rw [← h]; exact e
      clear hT
      go_wp2
      go_ret
      exact ⟨by rw [← HN.out]; rfl, rfl⟩

set_option maxHeartbeats 1000000 in
theorem sResults_any (p h : Int) (w : World) :
    Calls Try.prog 39 #[.int .i64 p, .int .i64 h] w fun e w' => e = .returned (.tuple #[.string (rsN p h), .bool (rsB p h)]) ∧ Below w.heap.size w w' := by
  cases h1 : inB p 1 1000
  · have hB : rsB p h = false := by simp [rsB, h1]
    rw [rsN_no hB, hB]
    go_enter Try.func39, Try.ntmps39
    go_wp2_with (go_at_call 58; refine (bxWeighed_any _ _).mono ?_; rintro e wx ⟨rfl, rfl⟩; rw [h1])
    go_ret2
    exact ⟨rfl, Below.refl _ _⟩
  · obtain ⟨P, rfl, p1, p2⟩ := inB_nat (m := 1000) h1
    cases h2 : inB h 0 ((P : Int) - 1)
    · have hB : rsB (P : Int) h = false := by simp [rsB, h2]
      rw [rsN_no hB, hB]
      go_enter Try.func39, Try.ntmps39
      go_wp2_with first | (go_at_call 58; refine (bxWeighed_any _ _).mono ?_; rintro e wx ⟨rfl, rfl⟩; rw [h1]) | (go_at_call 44; refine (l1In_any _ _ _ _).mono ?_; rintro e wx ⟨rfl, rfl⟩; rw [h2])
      go_ret2
      exact ⟨rfl, Below.refl _ _⟩
    · have h2' := inB_true h2
      obtain ⟨H, rfl⟩ : ∃ q : Nat, h = q := ⟨h.toNat, by omega⟩
      have hB : rsB (P : Int) (H : Int) = true := by simp [rsB, h1, h2]
      rw [show rsN (P : Int) (H : Int) = txt (rsL P H) by simp [rsN, hB], hB]
      have HR := Lib.hid (fun wx => bxResults_any P H p2 (by omega) wx)
      generalize txt (rsL P H) = t at *
      go_enter Try.func39, Try.ntmps39
      go_wp2_with first | (go_at_call 58; refine (bxWeighed_any _ _).mono ?_; rintro e wx ⟨rfl, rfl⟩; rw [h1]) | (go_at_call 44; refine (l1In_any _ _ _ _).mono ?_; rintro e wx ⟨rfl, rfl⟩; rw [h2]) | (go_at_call 63; refine (HR.out _).mono ?_; rintro e wx ⟨rfl, rfl⟩)
      go_ret2
      exact ⟨rfl, Below.refl _ _⟩

set_option maxRecDepth 100000 in
set_option maxHeartbeats 1000000 in
theorem sLongest_any (p : Int) (w : World) :
    Calls Try.prog 41 #[.int .i64 p] w fun e w' => e = .returned (.tuple #[.int .i64 (loN p), .bool (inB p 1 1000)]) ∧ Below w.heap.size w w' := by
  cases h1 : inB p 1 1000
  · rw [show loN p = 0 by simp [loN, h1]]
    go_enter Try.func41, Try.ntmps41
    go_wp2_with (go_at_call 58; refine (bxWeighed_any _ _).mono ?_; rintro e wx ⟨rfl, rfl⟩; rw [h1])
    go_ret2
    exact ⟨rfl, Below.refl _ _⟩
  · obtain ⟨P, rfl, p1, p2⟩ := inB_nat (m := 1000) h1
    rw [show loN (P : Int) = (lrN P : Nat) by simp [loN, h1]]
    have HM := Lib.hid (mxR_all p1)
    go_enter Try.func41, Try.ntmps41
    go_wp2_with (go_at_call 58; refine (bxWeighed_any _ _).mono ?_; rintro e wx ⟨rfl, rfl⟩; rw [h1])
    go_loop [4, 5] (fun m i => ∃ k x : Nat, k ≤ P ∧ i = .int .i64 k ∧ m = .int .i64 (x : Int) ∧ Hid (x = mxR P k)) (fun _ i => P - (intOf i).toNat)
    case atStart => exact ⟨0, 0, Nat.zero_le _, rfl, rfl, rfl⟩
    case round =>
      obtain ⟨k, x, hk, rfl, rfl, hx⟩ := hrel
      by_cases hlt : k < P
      · have HR := Lib.hid (fun wx => bxResults_any P k p2 hlt wx)
        have HS : Hid (mxR P (k + 1) = max x (txt (rsL P k)).size) := by
          simp only [Hid]
          rw [size_txt, hx.out]; rfl
        have hts : (txt (rsL P k)).size ≤ 1000 := by
          rw [size_txt]
          have := rsL_le P P k (Nat.le_refl _); have := lrN_le P P (Nat.le_refl _); omega
        generalize txt (rsL P k) = t at *
        go_wp2_with first | (go_at_call 63; refine (HR.out _).mono ?_; rintro e wx ⟨rfl, rfl⟩) | (go_at_call 65; refine (l1Most_max _ _ _).mono ?_; rintro e wx ⟨rfl, rfl⟩)
        go_round
        case rel => exact ⟨k + 1, max x t.size, by omega, by go_num, by congr 1; omega, HS.out.symm⟩
        case measure => simp [intOf]; omega
      · have hkP : k = P := by omega
        have HX : Hid (x = lrN P) := by simp only [Hid]; rw [hx.out, hkP]; exact HM.out
        have hki : ¬ (k : Int) < (P : Int) := by omega
        clear hkP hlt
        go_wp2
        go_ret2
        exact ⟨by rw [← HX.out]; rfl, Below.refl _ _⟩
end Go.Proofs.Ytcggiekhlophlaa
