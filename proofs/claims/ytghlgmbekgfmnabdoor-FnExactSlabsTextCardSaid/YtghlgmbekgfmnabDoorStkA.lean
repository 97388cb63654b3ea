/-
  Contracts: AreSlabs of the program and of the model. Conditions: none.
-/
import Derived.Test.YtghlgmbekgfmnabDoorStkW
import Derived.Test.YtghlgmbekgfmnabDoorSlbK
namespace Go.Proofs.YtghlgmbekgfmnabDoor
open Go.RowKit
set_option linter.unusedVariables false
set_option linter.unusedSimpArgs false

set_option maxRecDepth 100000 in
set_option maxHeartbeats 4000000 in
theorem areSlabs_any (A : Option Addr) (n c : Nat) (S : List Sb) (w : World) (hr : Rd w 2 A n (pairCells S)) (hn : n ≤ 4000000000) :
    Calls Tryd.prog 28 #[.slice A n c] w fun e w' => e = .returned (.bool (slB S)) ∧ Below w.heap.size w w' := by
  have hll : S.length = n := by have := hr.1; rw [length_pairCells] at this; omega
  have HL := Lib.hid hll
  cases hi : inB (n : Int) 1 7
  · have hk : slB S = false := by simp [slB, hll, hi]
    rw [hk]
    clear hll
    go_enter Tryd.func28, Tryd.ntmps28
    go_wp2_with fail
    refine (upToW_any _ _ _).mono ?_; rintro e wx ⟨rfl, rfl⟩
    rw [hi]
    go_wp2
    go_ret
    exact ⟨rfl, Below.refl _ _⟩
  · have hk : slB S = S.all slOk := by simp [slB, hll, hi]
    rw [hk]
    clear hll hk
    go_enter Tryd.func28, Tryd.ntmps28
    go_wp2_with fail
    refine (upToW_any _ _ _).mono ?_; rintro e wx ⟨rfl, rfl⟩
    rw [hi]
    go_wp2
    go_loopw [11] (fun i wr => ∃ k : Nat, k ≤ n ∧ i = .int .i64 k ∧ Hid ((S.take k).all slOk = true) ∧ Below w.heap.size w wr) (fun i _ => n - (intOf i).toNat)
    case atStart => exact ⟨0, Nat.zero_le _, rfl, by simp [Hid], Below.refl _ _⟩
    case round =>
      obtain ⟨k, hk, rfl, hA, hB⟩ := hrel
      have sB := hB.size
      by_cases hlt : k < n
      · obtain ⟨b, o, rfl, hbl, hx, p1, p2⟩ := (hr.later hB (Nat.le_refl _)).pair hlt
        have HS : Hid ((S.take (k + 1)).all slOk = ((S.take k).all slOk && slOk S[k])) := by
          simp only [Hid]; rw [List.take_succ_eq_append_getElem hx, List.all_append]; simp
        have HNo : Hid (slOk S[k] = false → S.all slOk = false) := fun h => by
          cases e : S.all slOk
          · rfl
          · rw [show slOk S[k] = true from List.all_eq_true.1 e _ (List.getElem_mem hx)] at h; cases h
        generalize S[k] = q at *
        obtain ⟨x, y⟩ := q
        simp only at p1 p2
        clear hx
        cases h1 : inB x 1 1000
        · have HF := Lib.hid (HNo.out (by simp [slOk, h1]))
          clear HS HNo
          go_wp2_with (go_at_call 48; refine (upToW_any _ _ _).mono ?_; rintro e wx ⟨rfl, rfl⟩; rw [h1])
          go_ret
          exact ⟨ret_bool HF.out.symm, by (repeat (first | (with_reducible exact Below.refl _ _) | (with_reducible assumption) | (with_reducible refine Below.drew ?_) | ((with_reducible refine balloc ?_ _ ?_); · (first | (simp; done) | (simp; omega) | omega)) | ((with_reducible refine bset ?_ _ ?_); · (first | (simp; done) | (simp; omega) | omega)) | (with_reducible refine bdrewN _ ?_) | ((with_reducible refine bcall ?_ (by assumption) ?_); · (first | (simp; done) | (simp; omega) | omega))))⟩
        · cases h2 : inB y 1 1000
          · have HF := Lib.hid (HNo.out (by simp [slOk, h1, h2]))
            clear HS HNo
            go_wp2_with (go_at_call 48; refine (upToW_any _ _ _).mono ?_; rintro e wx ⟨rfl, rfl⟩; first | rw [h1] | rw [h2])
            go_ret
            exact ⟨ret_bool HF.out.symm, by (repeat (first | (with_reducible exact Below.refl _ _) | (with_reducible assumption) | (with_reducible refine Below.drew ?_) | ((with_reducible refine balloc ?_ _ ?_); · (first | (simp; done) | (simp; omega) | omega)) | ((with_reducible refine bset ?_ _ ?_); · (first | (simp; done) | (simp; omega) | omega)) | (with_reducible refine bdrewN _ ?_) | ((with_reducible refine bcall ?_ (by assumption) ?_); · (first | (simp; done) | (simp; omega) | omega))))⟩
          · have hA2 := HS.out
            rw [hA.out, show slOk (x, y) = true by simp [slOk, h1, h2]] at hA2
            have HA2 := Lib.hid hA2
            clear hA2 HS HNo
            go_wp2_with (go_at_call 48; refine (upToW_any _ _ _).mono ?_; rintro e wx ⟨rfl, rfl⟩; first | rw [h1] | rw [h2])
            go_roundw
            case rel => exact ⟨k + 1, by omega, by go_num, HA2, by (repeat (first | (with_reducible exact Below.refl _ _) | (with_reducible assumption) | (with_reducible refine Below.drew ?_) | ((with_reducible refine balloc ?_ _ ?_); · (first | (simp; done) | (simp; omega) | omega)) | ((with_reducible refine bset ?_ _ ?_); · (first | (simp; done) | (simp; omega) | omega)) | (with_reducible refine bdrewN _ ?_) | ((with_reducible refine bcall ?_ (by assumption) ?_); · (first | (simp; done) | (simp; omega) | omega))))⟩
            case measure => simp [intOf]; omega
      · go_wp2
        go_ret
        have hA := hA.out
        rw [List.take_of_length_le (by rw [HL.out]; omega)] at hA
        exact ⟨ret_bool hA.symm, by (repeat (first | (with_reducible exact Below.refl _ _) | (with_reducible assumption) | (with_reducible refine Below.drew ?_) | ((with_reducible refine balloc ?_ _ ?_); · (first | (simp; done) | (simp; omega) | omega)) | ((with_reducible refine bset ?_ _ ?_); · (first | (simp; done) | (simp; omega) | omega)) | (with_reducible refine bdrewN _ ?_) | ((with_reducible refine bcall ?_ (by assumption) ?_); · (first | (simp; done) | (simp; omega) | omega))))⟩

set_option maxRecDepth 100000 in
set_option maxHeartbeats 4000000 in
theorem skSlabs_any (A : Option Addr) (n c : Nat) (S : List Sb) (w : World) (hr : Rd w 2 A n (pairCells S)) (hn : n ≤ 4000000000) :
    Calls Tryd.prog 25 #[.slice A n c] w fun e w' => e = .returned (.bool (slB S)) ∧ Below w.heap.size w w' := by
  have hll : S.length = n := by have := hr.1; rw [length_pairCells] at this; omega
  have HL := Lib.hid hll
  cases hi : inB (n : Int) 1 7
  · have hk : slB S = false := by simp [slB, hll, hi]
    rw [hk]
    clear hll
    go_enter Tryd.func25, Tryd.ntmps25
    go_wp2_with fail
    refine (l1In_any _ _ _ _).mono ?_; rintro e wx ⟨rfl, rfl⟩
    rw [hi]
    go_wp2
    go_ret
    exact ⟨rfl, Below.refl _ _⟩
  · have hk : slB S = S.all slOk := by simp [slB, hll, hi]
    rw [hk]
    clear hll hk
    go_enter Tryd.func25, Tryd.ntmps25
    go_wp2_with fail
    refine (l1In_any _ _ _ _).mono ?_; rintro e wx ⟨rfl, rfl⟩
    rw [hi]
    go_wp2
    go_loopw [11] (fun i wr => ∃ k : Nat, k ≤ n ∧ i = .int .i64 k ∧ Hid ((S.take k).all slOk = true) ∧ Below w.heap.size w wr) (fun i _ => n - (intOf i).toNat)
    case atStart => exact ⟨0, Nat.zero_le _, rfl, by simp [Hid], Below.refl _ _⟩
    case round =>
      obtain ⟨k, hk, rfl, hA, hB⟩ := hrel
      have sB := hB.size
      by_cases hlt : k < n
      · obtain ⟨b, o, rfl, hbl, hx, p1, p2⟩ := (hr.later hB (Nat.le_refl _)).pair hlt
        have HS : Hid ((S.take (k + 1)).all slOk = ((S.take k).all slOk && slOk S[k])) := by
          simp only [Hid]; rw [List.take_succ_eq_append_getElem hx, List.all_append]; simp
        have HNo : Hid (slOk S[k] = false → S.all slOk = false) := fun h => by
          cases e : S.all slOk
          · rfl
          · rw [show slOk S[k] = true from List.all_eq_true.1 e _ (List.getElem_mem hx)] at h; cases h
        generalize S[k] = q at *
        obtain ⟨x, y⟩ := q
        simp only at p1 p2
        clear hx
        cases h1 : inB x 1 1000
        · have HF := Lib.hid (HNo.out (by simp [slOk, h1]))
          clear HS HNo
          go_wp2_with (go_at_call 46; refine (l1In_any _ _ _ _).mono ?_; rintro e wx ⟨rfl, rfl⟩; rw [h1])
          go_ret
          exact ⟨ret_bool HF.out.symm, by (repeat (first | (with_reducible exact Below.refl _ _) | (with_reducible assumption) | (with_reducible refine Below.drew ?_) | ((with_reducible refine balloc ?_ _ ?_); · (first | (simp; done) | (simp; omega) | omega)) | ((with_reducible refine bset ?_ _ ?_); · (first | (simp; done) | (simp; omega) | omega)) | (with_reducible refine bdrewN _ ?_) | ((with_reducible refine bcall ?_ (by assumption) ?_); · (first | (simp; done) | (simp; omega) | omega))))⟩
        · cases h2 : inB y 1 1000
          · have HF := Lib.hid (HNo.out (by simp [slOk, h1, h2]))
            clear HS HNo
            go_wp2_with (go_at_call 46; refine (l1In_any _ _ _ _).mono ?_; rintro e wx ⟨rfl, rfl⟩; first | rw [h1] | rw [h2])
            go_ret
            exact ⟨ret_bool HF.out.symm, by (repeat (first | (with_reducible exact Below.refl _ _) | (with_reducible assumption) | (with_reducible refine Below.drew ?_) | ((with_reducible refine balloc ?_ _ ?_); · (first | (simp; done) | (simp; omega) | omega)) | ((with_reducible refine bset ?_ _ ?_); · (first | (simp; done) | (simp; omega) | omega)) | (with_reducible refine bdrewN _ ?_) | ((with_reducible refine bcall ?_ (by assumption) ?_); · (first | (simp; done) | (simp; omega) | omega))))⟩
          · have hA2 := HS.out
            rw [hA.out, show slOk (x, y) = true by simp [slOk, h1, h2]] at hA2
            have HA2 := Lib.hid hA2
            clear hA2 HS HNo
            go_wp2_with (go_at_call 46; refine (l1In_any _ _ _ _).mono ?_; rintro e wx ⟨rfl, rfl⟩; first | rw [h1] | rw [h2])
            go_roundw
            case rel => exact ⟨k + 1, by omega, by go_num, HA2, by (repeat (first | (with_reducible exact Below.refl _ _) | (with_reducible assumption) | (with_reducible refine Below.drew ?_) | ((with_reducible refine balloc ?_ _ ?_); · (first | (simp; done) | (simp; omega) | omega)) | ((with_reducible refine bset ?_ _ ?_); · (first | (simp; done) | (simp; omega) | omega)) | (with_reducible refine bdrewN _ ?_) | ((with_reducible refine bcall ?_ (by assumption) ?_); · (first | (simp; done) | (simp; omega) | omega))))⟩
            case measure => simp [intOf]; omega
      · go_wp2
        go_ret
        have hA := hA.out
        rw [List.take_of_length_le (by rw [HL.out]; omega)] at hA
        exact ⟨ret_bool hA.symm, by (repeat (first | (with_reducible exact Below.refl _ _) | (with_reducible assumption) | (with_reducible refine Below.drew ?_) | ((with_reducible refine balloc ?_ _ ?_); · (first | (simp; done) | (simp; omega) | omega)) | ((with_reducible refine bset ?_ _ ?_); · (first | (simp; done) | (simp; omega) | omega)) | (with_reducible refine bdrewN _ ?_) | ((with_reducible refine bcall ?_ (by assumption) ?_); · (first | (simp; done) | (simp; omega) | omega))))⟩


end Go.Proofs.YtghlgmbekgfmnabDoor
