/-
  Contracts of the model's small functions on texts: l1Split parts a text at a byte, l1Read reads a number. Conditions: texts that are not too long.
-/
import Derived.Test.YtieiakljholkaabDoorSplitW
namespace Go.Proofs.YtieiakljholkaabDoor
open Go.RowKit
set_option linter.unusedVariables false

theorem str_infoS : (Tryd.prog.info? 9).map (fun i => (i.zero, i.size, i.bytes)) = some (some (.string ByteArray.empty), 1, 16) := by kernel_rfl

set_option maxRecDepth 100000 in
set_option maxHeartbeats 2000000 in
theorem l1Split_any (s : ByteArray) (b : UInt8) (w : World) (hs : s.size ≤ 1048576) :
    Calls Tryd.prog 59 #[.string s, .int .u8 b.toNat] w fun e w' => ∃ A' n' c', e = .returned (.slice A' n' c') ∧ w'.ownsRow w.heap.size 9 1 (.slice A' n' c') n' (strCells (splitL s b)) ∧ Below w.heap.size w w' := by
  obtain ⟨i0, hi, hz0, hz1, hz2⟩ := info_parts str_infoS
  have hb8 : b.toNat < 256 := b.toNat_lt
  go_enter Tryd.func59, Tryd.ntmps59
  go_wp2
  go_loopw [5, 6, 7] (fun v fr i wr => ∃ (k f : Nat) (L : List ByteArray) (A' : Option Addr) (c' : Nat), k ≤ s.size ∧ f ≤ k ∧ i = .int .i64 k ∧ fr = .int .i64 f ∧ v = .slice A' L.length c' ∧ L.length ≤ k ∧ Hid (splitL s b = L ++ (spl b (cutFK s f k) (s.data.toList.drop k)).map mkS) ∧ wr.ownsRow w.heap.size 9 1 (.slice A' L.length c') L.length (strCells L) ∧ Below w.heap.size w wr) (fun _ _ i _ => s.size - (intOf i).toNat)
  case atStart => exact ⟨0, 0, [], none, 0, Nat.zero_le _, Nat.zero_le _, rfl, rfl, rfl, by simp, by simp [Hid, splitL, cutFK], World.ownsRow_nil _ _ _ _, Below.refl _ _⟩
  case round =>
    obtain ⟨k, f, L, A', c', hk, hf, rfl, rfl, rfl, hLk, hS, hown, hB⟩ := hrel
    have sB := hB.size
    by_cases hlt : k < s.size
    · have HD := Lib.hid (drop_at s k hlt)
      have HC := Lib.hid (cutFK_succ s f k hf hlt)
      have HX := Lib.hid (cutFK_extract s f k)
      have h8 : (s[k]).toNat < 256 := (s[k]).toNat_lt
      have HE : Hid ((s[k]).toNat = b.toNat ↔ s[k] = b) := UInt8.toNat_inj
      generalize hv : (s[k]).toNat = v at *
      generalize hq : b.toNat = q at *
      have HQ := Lib.hid hq
      clear hq
      by_cases he : v = q
      · have hbq : (v : Int) = q := by omega
        have hc3 : L.length + 1 ≤ maxLen := by simp only [maxLen]; omega
        have hfk : (f : Int) ≤ k := by omega
        have hks : (k : Int) ≤ s.size := by omega
        go_wp2_with (at_builtin; refine wpList_append_own _ rfl (.tmp 19) (.tmp 24) 22 rfl w.heap.size 9 i0 (.string ByteArray.empty) 1 16 Tryd.underlying22 hi hz0 hz1 hz2 rfl (by decide) _ _ _ rfl (hown.alloc _) ⟨wr.heap.size, 0, none⟩ 1 1 [.string (s.extract f k)] rfl rfl (new1 _ _ _) (str_oneCell [_]) hc3 (by omega) (Nat.le_trans sB (show wr.heap.size ≤ _ by simp)) ?_)
        intro v' w2 hown' hgrow _
        have hb2 := gb_new (Nat.le_refl _) (hB.alloc (by omega) (.cells #[.string (s.extract f k)] 9)) hgrow (fun g hg => (hown.lt g hg).1)
        obtain ⟨A2, c2', rfl⟩ := own_slice hown'
        clear hgrow hown hB hc3
        go_wp2
        go_roundw
        case rel =>
          refine ⟨k + 1, k + 1, L ++ [s.extract f k], A2, c2', by omega, Nat.le_refl _, by go_num, by go_num, by simp, by simp; omega, ?_, ?_, hb2⟩
          · simp only [Hid]
            rw [hS.out, HD.out, (HE.out).1 (by omega), cutFK_same, ← HX.out]
            simp [spl]
          · rw [strCells_append, List.length_append]; exact hown'
        case measure => simp [intOf]; omega
      · go_wp2
        go_roundw
        case rel =>
          refine ⟨k + 1, f, L, A', c', by omega, by omega, by go_num, rfl, rfl, by omega, ?_, hown, hB⟩
          simp only [Hid]
          have hne : s[k] ≠ b := fun e => he ((HE.out).2 e)
          rw [hS.out, HD.out, HC.out]
          simp [spl, hne]
        case measure => simp [intOf]; omega
    · have hks : k = s.size := by omega
      have HX := Lib.hid (cutFK_extract s f k)
      have HD : Hid (s.data.toList.drop k = []) := List.drop_eq_nil_of_le (by rw [Array.length_toList]; exact Nat.le_of_eq hks.symm)
      have hc3 : L.length + 1 ≤ maxLen := by simp only [maxLen]; omega
      have hfk : (f : Int) ≤ s.size := by omega
      have HK := Lib.hid hks
      clear hks
      go_wp2_with (at_builtin; refine wpList_append_own _ rfl (.tmp 28) (.tmp 32) 22 rfl w.heap.size 9 i0 (.string ByteArray.empty) 1 16 Tryd.underlying22 hi hz0 hz1 hz2 rfl (by decide) _ _ _ rfl (hown.alloc _) ⟨wr.heap.size, 0, none⟩ 1 1 [.string (s.extract f s.size)] rfl rfl (new1 _ _ _) (str_oneCell [_]) hc3 (by omega) (Nat.le_trans sB (show wr.heap.size ≤ _ by simp)) ?_)
      intro v' w2 hown' hgrow _
      have hb2 := gb_new (Nat.le_refl _) (hB.alloc (by omega) (.cells #[.string (s.extract f s.size)] 9)) hgrow (fun g hg => (hown.lt g hg).1)
      obtain ⟨A2, c2', rfl⟩ := own_slice hown'
      have HF : Hid (splitL s b = L ++ [s.extract f s.size]) := by
        simp only [Hid]
        rw [hS.out, HD.out, ← HK.out, ← HX.out]
        rfl
      clear hgrow hown hB hc3
      go_wp2
      go_ret
      exact ⟨A2, _, c2', rfl, by rw [HF.out, strCells_append]; exact hown', hb2⟩


end Go.Proofs.YtieiakljholkaabDoor
