/-
  Contracts: how many tests pralines need in groups, of the program. Conditions: none.
-/
import Derived.Test.YtcggiekhlophlabDoorTstW
import Derived.Test.YtcggiekhlophlabDoorLibB
import Derived.Lib.Strings
namespace Go.Proofs.YtcggiekhlophlabDoor
open Go.RowKit
set_option linter.unusedVariables false
set_option linter.unusedSimpArgs false

set_option maxHeartbeats 400000 in
theorem hasBitter_any (s : ByteArray) (w : World) :
    Calls Tryd.prog 28 #[.string s] w fun e w' => e = .returned (.bool (hasX s.data.toList)) ∧ w = w' := by
  have HC := Lib.hid (fun wx => Tryd.strings_Contains_one s 120 wx)
  go_enter Tryd.func28, Tryd.ntmps28
  go_wp2_with fail
  refine (HC.out _).mono ?_; rintro e wx ⟨rfl, rfl⟩
  go_wp2
  go_ret
  exact ⟨rfl, rfl⟩

set_option maxHeartbeats 400000 in
theorem testsOfGroup_any (s : ByteArray) (hs : s.size ≤ 1048576) (w : World) :
    Calls Tryd.prog 33 #[.string s] w fun e w' => e = .returned (.int .i64 (tgL s.data.toList : Nat)) ∧ w = w' := by
  have HB := Lib.hid (fun wx => hasBitter_any s wx)
  have hl : s.data.toList.length = s.size := Array.length_toList
  by_cases h1 : 1 < s.size
  · have h1i : (s.size : Int) > 1 := by omega
    cases h2 : hasX s.data.toList
    · have HT : Hid (tgL s.data.toList = 1) := by simp [Hid, tgL, h2]
      rw [h2] at HB
      go_enter Tryd.func33, Tryd.ntmps33
      go_wp2_with (go_at_call 28; refine (HB.out _).mono ?_; rintro e wx ⟨rfl, rfl⟩)
      go_ret
      exact ⟨ret_int (by rw [HT.out]; rfl), rfl⟩
    · have HT : Hid (tgL s.data.toList = 1 + s.size) := by simp only [Hid, tgL, h2, hl, h1, and_self, if_true]
      rw [h2] at HB
      go_enter Tryd.func33, Tryd.ntmps33
      go_wp2_with (go_at_call 28; refine (HB.out _).mono ?_; rintro e wx ⟨rfl, rfl⟩)
      go_ret
      exact ⟨ret_int (by rw [HT.out]; omega), rfl⟩
  · have h1i : ¬ (s.size : Int) > 1 := by omega
    have HT : Hid (tgL s.data.toList = 1) := by simp only [Hid, tgL, hl]; rw [if_neg (by omega)]
    go_enter Tryd.func33, Tryd.ntmps33
    go_wp2_with (go_at_call 28; refine (HB.out _).mono ?_; rintro e wx ⟨rfl, rfl⟩)
    go_ret
    exact ⟨ret_int (by rw [HT.out]; rfl), rfl⟩

theorem tb_le' {g : Nat} (hg : 1 ≤ g) (s : ByteArray) : tbL' g s.data.toList ≤ 2 * s.size := by
  have h := tb_le hg _ s.data.toList (Nat.le_refl _)
  have hl : s.data.toList.length = s.size := Array.length_toList
  omega
def sizeOfS : Value → Nat
  | .string t => t.size
  | _ => 0
theorem ext_take (t : ByteArray) (m : Nat) : (t.extract 0 m).data.toList = t.data.toList.take m := by
  rw [Lib.extract_data]; simp
theorem ext_drop (t : ByteArray) (m : Nat) : (t.extract m t.size).data.toList = t.data.toList.drop m := by
  have hl : t.data.toList.length = t.size := Array.length_toList
  rw [Lib.extract_data, ← hl, List.take_of_length_le (by simp)]
theorem tb_round {g : Nat} (hg : 1 ≤ g) {t : ByteArray} (h : t.size ≠ 0) : tbL' g t.data.toList = tgL (t.extract 0 (min g t.size)).data.toList + tbL' g (t.extract (min g t.size) t.size).data.toList := by
  have hl : t.data.toList.length = t.size := Array.length_toList
  rw [tb_step hg (by omega), ext_take, ext_drop]
  by_cases c : g ≤ t.size
  · rw [Nat.min_eq_left c]
  · rw [Nat.min_eq_right (by omega), List.take_of_length_le (by omega), List.take_of_length_le (by omega), List.drop_of_length_le (by omega), List.drop_of_length_le (by omega)]

set_option maxRecDepth 100000 in
set_option maxHeartbeats 2000000 in
theorem testsOfBox_any (s : ByteArray) (g : Nat) (hs : s.size ≤ 1000) (hg : 1 ≤ g) (hg2 : g ≤ 1000) (w : World) :
    Calls Tryd.prog 24 #[.string s, .int .i64 g] w fun e w' => e = .returned (.int .i64 (tbL' g s.data.toList : Nat)) ∧ w = w' := by
  have HL : Hid (tbL' g s.data.toList ≤ 2 * s.size) := tb_le' hg s
  go_enter Tryd.func24, Tryd.ntmps24
  go_wp2
  go_loop [5, 6, 7] (fun a l _ => ∃ (n : Nat) (t : ByteArray), a = .int .i64 (n : Int) ∧ l = .string t ∧ t.size ≤ 1000 ∧ n + 2 * t.size ≤ 2000 ∧ Hid (n + tbL' g t.data.toList = tbL' g s.data.toList)) (fun _ l _ => sizeOfS l)
  case atStart => exact ⟨0, s, rfl, rfl, hs, by omega, by simp [Hid]⟩
  case round =>
    obtain ⟨n, t, rfl, rfl, ht, hn, hT⟩ := hrel
    have hl : t.data.toList.length = t.size := Array.length_toList
    by_cases hz : t.size = 0
    · have he : t.toList.isEmpty = true := by
        rw [Lib.toList_data, List.isEmpty_iff]
        exact List.eq_nil_of_length_eq_zero (by omega)
      have HE : Hid (tbL' g s.data.toList = n) := by
        have h := hT.out
        rw [List.eq_nil_of_length_eq_zero (show t.data.toList.length = 0 by omega), tb_nil] at h
        simp only [Hid]; omega
      clear hT hl
      go_wp2
      go_ret
      exact ⟨ret_int (by rw [HE.out]), rfl⟩
    · have he : t.toList.isEmpty = false := by
        rw [Lib.toList_data]
        cases h : t.data.toList with
        | nil => rw [h] at hl; simp at hl; omega
        | cons a r => rfl
      have HR := Lib.hid (tb_round hg hz)
      obtain ⟨m, hm⟩ : ∃ m : Nat, m = min g t.size := ⟨_, rfl⟩
      have hmi : min (g : Int) (t.size : Int) = (m : Int) := by omega
      have hm1 : 1 ≤ m := by omega
      have hmt : m ≤ t.size := by omega
      rw [← hm] at HR
      have hs1 : (t.extract 0 m).size = m := by rw [ByteArray.size_extract]; omega
      have hs2 : (t.extract m t.size).size = t.size - m := by rw [ByteArray.size_extract]; omega
      have HG := Lib.hid (fun wx => testsOfGroup_any (t.extract 0 m) (by omega) wx)
      have htg := (tgL_le (t.extract 0 m).data.toList).2
      have hl1 : (t.extract 0 m).data.toList.length = (t.extract 0 m).size := Array.length_toList
      have HT2 : Hid (n + tgL (t.extract 0 m).data.toList + tbL' g (t.extract m t.size).data.toList = tbL' g s.data.toList) := by
        have h := hT.out
        rw [HR.out] at h
        simp only [Hid]; omega
      have hq : tgL (t.extract 0 m).data.toList ≤ 1 + m := by omega
      generalize tgL (t.extract 0 m).data.toList = q at *
      clear hm hl1 hT hl htg HR
      go_wp2_with (go_at_call 33; refine (HG.out _).mono ?_; rintro e wx ⟨rfl, rfl⟩)
      go_round
      case rel => exact ⟨n + q, _, by go_num, rfl, by omega, by omega, HT2.out⟩
      case measure => simp [sizeOfS]; omega
end Go.Proofs.YtcggiekhlophlabDoor
