/-
  Contracts of the model's small functions on texts: l1Split parts a text at a byte, l1Read reads a number. Conditions: texts that are not too long.
-/
import Derived.Test.YtcocdidkkcjbgaaDoorSplitW
namespace Go.Proofs.YtcocdidkkcjbgaaDoor
open Go.RowKit
set_option linter.unusedVariables false

theorem str_infoS : (Tryd.prog.info? 9).map (fun i => (i.zero, i.size, i.bytes)) = some (some (.string ByteArray.empty), 1, 16) := by kernel_rfl

set_option maxRecDepth 100000 in
set_option maxHeartbeats 2000000 in
theorem l1Split_any (s : ByteArray) (b : UInt8) (w : World) (hs : s.size ≤ 1048576) :
    Calls Tryd.prog 42 #[.string s, .int .u8 b.toNat] w fun e w' => ∃ A' n' c', e = .returned (.slice A' n' c') ∧ w'.ownsRow w.heap.size 9 1 (.slice A' n' c') n' (strCells (splitL s b)) ∧ Below w.heap.size w w' := by
  obtain ⟨i0, hi, hz0, hz1, hz2⟩ := info_parts str_infoS
  have hb8 : b.toNat < 256 := b.toNat_lt
  go_enter Tryd.func42, Tryd.ntmps42
  go_wp2
  go_loopw [5, 6, 7] (fun v fr i wr => ∃ (k f : Nat) (L : List ByteArray) (A' : Option Addr) (c' : Nat), k ≤ s.size ∧ f ≤ k ∧ i = .int .i64 k ∧ fr = .int .i64 f ∧ v = .slice A' L.length c' ∧ L.length ≤ k ∧ Hid (splitL s b = L ++ (spl b (cutFK s f k) (s.data.toList.drop k)).map mkS) ∧ wr.ownsRow w.heap.size 9 1 (.slice A' L.length c') L.length (strCells L) ∧ Below w.heap.size w wr) (fun _ _ i _ => s.size - (intOf i).toNat)
  case atStart => exact ⟨0, 0, [], none, 0, Nat.zero_le _, Nat.zero_le _, rfl, rfl, rfl, by simp, by simp [Hid, splitL, cutFK], World.ownsRow_nil _ _ _ _, Below.refl _ _⟩
  case round =>
    obtain ⟨k, f, L, A', c', hk, hf, rfl, rfl, rfl, hLk, hS, hown, hB⟩ := hrel
    have sB := hB.size
    by_cases hlt : k < s.size
    · have HD := Lib.hid (drop_at s k hlt)
      have HC := Lib.hid (cutFK_succ s f k hf hlt)
      have HX := Lib.hid (cutFK_extract s f k)
      have h8 : (s[k]).toNat < 256 := (s[k]).toNat_lt
      have HE : Hid ((s[k]).toNat = b.toNat ↔ s[k] = b) := UInt8.toNat_inj
      generalize hv : (s[k]).toNat = v at *
      generalize hq : b.toNat = q at *
      have HQ := Lib.hid hq
      clear hq
      by_cases he : v = q
      · have hbq : (v : Int) = q := by omega
        have hc3 : L.length + 1 ≤ maxLen := by simp only [maxLen]; omega
        have hfk : (f : Int) ≤ k := by omega
        have hks : (k : Int) ≤ s.size := by omega
        go_wp2_with (at_builtin; refine wpList_append_own _ rfl (.tmp 19) (.tmp 24) 28 rfl w.heap.size 9 i0 (.string ByteArray.empty) 1 16 Tryd.underlying28 hi hz0 hz1 hz2 rfl (by decide) _ _ _ rfl (hown.alloc _) ⟨wr.heap.size, 0, none⟩ 1 1 [.string (s.extract f k)] rfl rfl (new1 _ _ _) (str_oneCell [_]) hc3 (by omega) (Nat.le_trans sB (show wr.heap.size ≤ _ by simp)) ?_)
        intro v' w2 hown' hgrow _
        have hb2 := gb_new (Nat.le_refl _) (hB.alloc (by omega) (.cells #[.string (s.extract f k)] 9)) hgrow (fun g hg => (hown.lt g hg).1)
        obtain ⟨A2, c2', rfl⟩ := own_slice hown'
        clear hgrow hown hB hc3
        go_wp2
        go_roundw
        case rel =>
          refine ⟨k + 1, k + 1, L ++ [s.extract f k], A2, c2', by omega, Nat.le_refl _, by go_num, by go_num, by simp, by simp; omega, ?_, ?_, hb2⟩
          · simp only [Hid]
            rw [hS.out, HD.out, (HE.out).1 (by omega), cutFK_same, ← HX.out]
            simp [spl]
          · rw [strCells_append, List.length_append]; exact hown'
        case measure => simp [intOf]; omega
      · go_wp2
        go_roundw
        case rel =>
          refine ⟨k + 1, f, L, A', c', by omega, by omega, by go_num, rfl, rfl, by omega, ?_, hown, hB⟩
          simp only [Hid]
          have hne : s[k] ≠ b := fun e => he ((HE.out).2 e)
          rw [hS.out, HD.out, HC.out]
          simp [spl, hne]
        case measure => simp [intOf]; omega
    · have hks : k = s.size := by omega
      have HX := Lib.hid (cutFK_extract s f k)
      have HD : Hid (s.data.toList.drop k = []) := List.drop_eq_nil_of_le (by rw [Array.length_toList]; exact Nat.le_of_eq hks.symm)
      have hc3 : L.length + 1 ≤ maxLen := by simp only [maxLen]; omega
      have hfk : (f : Int) ≤ s.size := by omega
      have HK := Lib.hid hks
      clear hks
      go_wp2_with (at_builtin; refine wpList_append_own _ rfl (.tmp 28) (.tmp 32) 28 rfl w.heap.size 9 i0 (.string ByteArray.empty) 1 16 Tryd.underlying28 hi hz0 hz1 hz2 rfl (by decide) _ _ _ rfl (hown.alloc _) ⟨wr.heap.size, 0, none⟩ 1 1 [.string (s.extract f s.size)] rfl rfl (new1 _ _ _) (str_oneCell [_]) hc3 (by omega) (Nat.le_trans sB (show wr.heap.size ≤ _ by simp)) ?_)
      intro v' w2 hown' hgrow _
      have hb2 := gb_new (Nat.le_refl _) (hB.alloc (by omega) (.cells #[.string (s.extract f s.size)] 9)) hgrow (fun g hg => (hown.lt g hg).1)
      obtain ⟨A2, c2', rfl⟩ := own_slice hown'
      have HF : Hid (splitL s b = L ++ [s.extract f s.size]) := by
        simp only [Hid]
        rw [hS.out, HD.out, ← HK.out, ← HX.out]
        rfl
      clear hgrow hown hB hc3
      go_wp2
      go_ret
      exact ⟨A2, _, c2', rfl, by rw [HF.out, strCells_append]; exact hown', hb2⟩

theorem pow10_six {k : Nat} (h : k ≤ 6) : 10 ^ k ≤ 1000000 := by
  have h2 : 10 ^ k ≤ 10 ^ 6 := Nat.pow_le_pow_right (by decide) h
  exact h2

theorem data_at (s : ByteArray) (k : Nat) (h : k < s.size) : s.data[k]? = some s[k] := by
  have hd : k < s.data.size := h
  rw [Array.getElem?_eq_getElem hd]
  rfl

set_option maxRecDepth 100000 in
set_option maxHeartbeats 2000000 in
theorem l1Read_any (s : ByteArray) (w : World) (hs : s.size ≤ 1048576) :
    Calls Tryd.prog 43 #[.string s] w fun e w' => e = .returned (.int .i64 (readZ s)) ∧ w = w' := by
  by_cases h1 : 1 ≤ s.size ∧ s.size ≤ 6
  · obtain ⟨h1, h6⟩ := h1
    have hin : inB s.size 1 6 = true := by simp [inB]; omega
    have H0 := Lib.hid (data_at s 0 (by omega))
    have h8 : (s[0]).toNat < 256 := (s[0]).toNat_lt
    have HE : Hid ((s[0]).toNat = 48 ↔ s[0] = 48) := ⟨fun e => UInt8.toNat_inj.1 (by simpa using e), fun e => by rw [e]; rfl⟩
    have hlen : (0 : Int) < s.size := by omega
    by_cases hz : (s[0]).toNat = 48 ∧ 1 < s.size
    · have HR : Hid (readZ s = -1) := by
        simp only [Hid, readZ]
        rw [H0.out, if_neg]
        simp [(HE.out).1 hz.1, hz.2]
      obtain ⟨hz1, hz2⟩ := hz
      have hz3 : (1 : Int) < s.size := by omega
      go_enter Tryd.func43, Tryd.ntmps43
      go_wp2_with (go_at_call 54; refine (l1In_any _ _ _ _).mono ?_; rintro e wx ⟨rfl, rfl⟩; rw [hin])
      go_ret
      exact ⟨by rw [HR.out]; rfl, rfl⟩
    · have HR : Hid (readZ s = readGo s.data.toList 0) := by
        simp only [Hid, readZ]
        rw [H0.out, if_pos]
        simp only [Bool.and_eq_true, decide_eq_true_eq, Bool.not_eq_true', Bool.and_eq_false_iff, decide_eq_false_iff_not]
        refine ⟨⟨h1, h6⟩, ?_⟩
        by_cases hq : (s[0]).toNat = 48
        · exact .inr fun e => hz ⟨hq, e⟩
        · exact .inl fun e => hq ((HE.out).2 (Option.some.inj e))
      have hz2 : (s[0]).toNat = 48 ∧ ¬ (1 : Int) < s.size ∨ ¬ (s[0]).toNat = 48 := by omega
      clear hz
      rcases hz2 with ⟨hz1, hz2⟩ | hz1
      all_goals
        go_enter Tryd.func43, Tryd.ntmps43
        go_wp2_with (go_at_call 54; refine (l1In_any _ _ _ _).mono ?_; rintro e wx ⟨rfl, rfl⟩; rw [hin])
        clear hz1
        go_loop [3, 4] (fun nn i => ∃ (k n : Nat), k ≤ s.size ∧ i = .int .i64 k ∧ nn = .int .i64 n ∧ n < 10 ^ k ∧ Hid (readGo s.data.toList 0 = readGo (s.data.toList.drop k) n)) (fun _ i => s.size - (intOf i).toNat)
        case atStart => exact ⟨0, 0, Nat.zero_le _, rfl, rfl, by simp, by simp [Hid]⟩
        case round =>
          obtain ⟨k, n, hk, rfl, rfl, hn, hS⟩ := hrel
          by_cases hlt : k < s.size
          · have HD := Lib.hid (drop_at s k hlt)
            have h8 : (s[k]).toNat < 256 := (s[k]).toNat_lt
            have h5 := pow10_six (k := k + 1) (by omega)
            have h5' : 10 ^ k * 10 ≤ 1000000 := by rw [← Nat.pow_succ]; exact h5
            have HN : Hid (n < 10 ^ k) := hn
            have hn6 : n < 100000 := by omega
            have HG : Hid (dgB s[k] = decide (48 ≤ (s[k]).toNat ∧ (s[k]).toNat ≤ 57)) := rfl
            generalize hv : (s[k]).toNat = v at *
            have HV := Lib.hid hv
            clear h5 hn
            by_cases hd : 48 ≤ v ∧ v ≤ 57
            · obtain ⟨hd1, hd2⟩ := hd
              obtain ⟨d, rfl⟩ : ∃ d, v = 48 + d := ⟨v - 48, by omega⟩
              have hu : IntKind.u8.wrap (((48 + d : Nat) : Int) - 48) = d := by
                have h : ∀ m : Fin 10, IntKind.u8.wrap (((48 + (m : Nat) : Nat) : Int) - 48) = ((m : Nat) : Int) := by decide
                exact h ⟨d, by omega⟩
              have hk1 : (k : Int) < s.size := by omega
              go_wp2
              go_round
              case rel =>
                refine ⟨k + 1, 10 * n + d, by omega, by go_num, by go_num, ?_, ?_⟩
                · have := HN.out; rw [Nat.pow_succ]; omega
                · simp only [Hid]
                  rw [hS.out, HD.out, readGo, HG.out, if_pos (by simp; omega), HV.out]
                  congr 1
                  omega
              case measure => simp [intOf]; omega
            · have HF : Hid (readGo s.data.toList 0 = -1) := by
                simp only [Hid]
                rw [hS.out, HD.out, readGo, HG.out, if_neg (by simpa using hd)]
              have hd' : v < 48 ∨ (¬ v < 48 ∧ 57 < v) := by omega
              rcases hd' with hd1 | ⟨hd1, hd2⟩
              all_goals
                go_wp2
                go_ret
                exact ⟨by rw [HR.out, HF.out]; rfl, rfl⟩
          · have hks : k = s.size := by omega
            have HD : Hid (s.data.toList.drop k = []) := List.drop_eq_nil_of_le (by rw [Array.length_toList]; exact Nat.le_of_eq hks.symm)
            go_wp2
            go_ret
            exact ⟨by rw [HR.out, hS.out, HD.out]; rfl, rfl⟩
  · have hin : inB s.size 1 6 = false := by simp only [inB, decide_eq_false_iff_not]; omega
    have HR : Hid (readZ s = -1) := by
      simp only [Hid, readZ]
      rw [if_neg]
      simp
      omega
    go_enter Tryd.func43, Tryd.ntmps43
    go_wp2_with (go_at_call 54; refine (l1In_any _ _ _ _).mono ?_; rintro e wx ⟨rfl, rfl⟩; rw [hin])
    go_ret
    exact ⟨by rw [HR.out]; rfl, rfl⟩

end Go.Proofs.YtcocdidkkcjbgaaDoor
