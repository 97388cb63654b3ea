/-
  Contract: the tablet of a list of squares, of the model.
-/
import Derived.Test.YtieiakljholkaaaTabW
import Derived.WalkSmall
import Derived.Outline
import Derived.Lib.OthersKept
namespace Go.Proofs.Ytieiakljholkaaa
open Go.RowKit
set_option linter.unusedVariables false
set_option linter.unusedSimpArgs false

theorem str_infoM : (Try.prog.info? 9).map (fun i => (i.zero, i.size, i.bytes)) = some (some (.string ByteArray.empty), 1, 16) := by kernel_rfl

theorem sub_own {w : World} {b o j : Nat} {L : List Bool} {M : Nat} (hr : Rd w 1 (some ⟨b, o, none⟩) M (boolCells L)) (hj : j < L.length) : w.cell? ⟨b, o + j, none⟩ = some (.bool L[j]) := by
  have hM : M = L.length := by have := hr.1; rw [length_boolCells] at this; omega
  obtain ⟨b', o', e, _, hc⟩ := hr.2 (by omega)
  simp only [Option.some.injEq, Addr.mk.injEq, and_true] at e
  obtain ⟨rfl, rfl⟩ := e
  exact hc j _ (by simp [boolCells, hj])

set_option maxRecDepth 100000 in
set_option maxHeartbeats 4000000 in
theorem mlOf_any (A : Option Addr) (M c W n : Nat) (g : Nat → Nat → Bool) (w : World) (hM : M = n * W) (hr : Rd w 1 A M (boolCells (isF W M g))) (hc : M ≤ c) (hW1 : 1 ≤ W) (hW10 : W ≤ 10) (hn1 : 1 ≤ n) (hn10 : n ≤ 10) :
    Calls Try.prog 10 #[.int .i64 W, .slice A M c] w fun e w' => ∃ A' c', e = .returned (.slice A' n c') ∧ w'.ownsRow w.heap.size 9 1 (.slice A' n c') n (strCells (tabF W n g)) ∧ Below w.heap.size w w' := by
  obtain ⟨i0, hi, hz0, hz1, hz2⟩ := info_parts str_infoM
  have hM100 : M ≤ 100 := by subst hM; exact Nat.mul_le_mul hn10 hW10
  have hM1 : W ≤ M := by subst hM; exact Nat.le_mul_of_pos_left W hn1
  have HM := Lib.hid hM
  clear hM
  obtain ⟨b, o, rfl, hbl, _⟩ := hr.2 (by omega)
  go_enter Try.func10, Try.ntmps10
  go_wp2
  go_loopw [5, 6] (fun v i wr => ∃ (k q : Nat) (A' : Option Addr) (c' : Nat), k ≤ n ∧ q ≤ M ∧ Hid (q = k * W) ∧ i = .int .i64 q ∧ v = .slice A' k c' ∧ wr.ownsRow w.heap.size 9 1 (.slice A' k c') k (strCells (tabF W k g)) ∧ Below w.heap.size w wr) (fun _ i _ => M - (intOf i).toNat)
  case atStart => exact ⟨0, 0, none, 0, Nat.zero_le _, by omega, by simp [Hid], rfl, rfl, World.ownsRow_nil _ _ _ _, Below.refl _ _⟩
  case round =>
    obtain ⟨k, q, A', c', hk, hqM, hq, rfl, rfl, hown, hB⟩ := hrel
    have sB := hB.size
    by_cases hlt : q < M
    · have hkn : k < n := by
        rcases Nat.lt_or_ge k n with h | h
        · exact h
        · have h2 : n * W ≤ k * W := Nat.mul_le_mul_right W h
          have := hq.out; have := HM.out; omega
      have hqW : q + W ≤ M := by
        have h2 : (k + 1) * W ≤ n * W := Nat.mul_le_mul_right W hkn
        rw [Nat.succ_mul] at h2
        have := hq.out; have := HM.out; omega
      have hrd := hr.later hB (Nat.le_refl _)
      go_wp2
      go_loop [7, 24] (fun t j => ∃ m : Nat, m ≤ W ∧ j = .int .i64 m ∧ t = .string (rowF m (g k))) (fun _ j => W - (intOf j).toNat)
      case atStart => exact ⟨0, Nat.zero_le _, rfl, rfl⟩
      case round =>
        obtain ⟨m, hm, rfl, rfl⟩ := hrel
        have hs := size_rowF m (g k)
        by_cases hlm : m < W
        · have hj : q + m < (isF W M g).length := by rw [length_isF]; omega
          have p := sub_own hrd hj
          have e : (isF W M g)[q + m] = g k m := by
            have d := divmod_at (W := W) (y := k) hlm
            rw [isF_at, hq.out, d.1, d.2]
          rw [e] at p
          have p' : wr.cell? ⟨b, o + q + m, none⟩ = some (.bool (g k m)) := by rw [Nat.add_assoc]; exact p
          have HC := Lib.hid (rowF_succ m (g k))
          clear p e
          generalize g k m = v at *
          generalize rowF m (g k) = rw0 at *
          cases v
          all_goals
            go_wp2
            go_round
            case rel => exact ⟨m + 1, by omega, by go_num, by rw [HC.out]; rfl⟩
            case measure => simp [intOf]; omega
        · have hme : m = W := by omega
          subst hme
          have HT := Lib.hid (tabF_succ m k g)
          generalize hcv : rowF m (g k) = cv at *
          clear hcv
          go_wp2_with (at_builtin; refine wpList_append_own _ rfl (.tmp 34) (.tmp 36) 22 rfl w.heap.size 9 i0 (.string ByteArray.empty) 1 16 Try.underlying22 hi hz0 hz1 hz2 rfl (by decide) _ _ _ rfl (hown.alloc _) ⟨wr.heap.size, 0, none⟩ 1 1 [.string cv] rfl rfl ?d1 ?d2 ?d3 ?d4 ?d5 ?_)
          case d2 => first | rfl | exact str_oneCell [cv]
          case d3 => simp only [maxLen]; omega
          case d4 => omega
          case d5 => first | omega | (simp; omega)
          · intro v' w2 hown' hgrow _
            have hb2 := gb_new (Nat.le_refl _) (hB.alloc sB (.cells #[.string cv] 9)) hgrow (fun g hg => (hown.lt g hg).1)
            obtain ⟨A3, c3', rfl⟩ := own_slice hown'
            clear hgrow hown
            go_wp2
            go_roundw
            case rel => exact ⟨k + 1, q + m, A3, c3', by omega, by omega, by simp only [Hid]; rw [hq.out, Nat.succ_mul], by go_num, rfl, by rw [HT.out, strCells_append]; exact hown', hb2⟩
            case measure => simp [intOf]; omega
    · have hkn : k = n := by
        have h1 := hq.out
        have h2 := HM.out
        have h3 : k * W = n * W := by omega
        exact Nat.eq_of_mul_eq_mul_right (by omega) h3
      subst hkn
      go_wp2
      go_ret
      exact ⟨A', c', rfl, hown, hB⟩

end Go.Proofs.Ytieiakljholkaaa
