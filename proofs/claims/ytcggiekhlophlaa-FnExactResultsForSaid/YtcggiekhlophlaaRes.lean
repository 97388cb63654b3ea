/-
  Contracts: ResultsFor of the program. Conditions: none.
-/
import Derived.Test.YtcggiekhlophlaaSusW
import Derived.Test.YtcggiekhlophlaaResM
import Derived.Test.YtcggiekhlophlaaByte
import Derived.Test.YtcggiekhlophlaaChg
import Derived.Deep.AppendLies
namespace Go.Proofs.Ytcggiekhlophlaa
open Go.RowKit
set_option linter.unusedVariables false
set_option linter.unusedSimpArgs false

set_option maxHeartbeats 400000 in
theorem isPrR_any (n m : Int) (w : World) :
    Calls Try.prog 54 #[.int .i64 n, .int .i64 m] w fun e w' => e = .returned (.bool (inB n 0 (m - 1))) ∧ w = w' := by
  by_cases h1 : 0 ≤ n <;> by_cases h2 : n < m
  all_goals
    go_enter Try.func54, Try.ntmps54
    go_wp2
    go_ret
    exact ⟨ret_bool (by simp [inB]; omega), rfl⟩

theorem res_next {F M D : Nat} (h2 : 2 ≤ M) (hD : D < M) : ∃ F' M' D' : Nat, afF F M (rifV D M) = (F' : Int) ∧ afM M (rifV D M) = (M' : Int) ∧ F + D = F' + D' ∧ D' < M' ∧ M' < M ∧ rsL M D = UInt8.ofNat (rifV D M) :: rsL M' D' := by
  have a := panN_lt h2
  have b := panN_pos h2
  have c := panN_two h2
  by_cases h1 : D < panN M
  · rw [show rifV D M = 108 by simp [rifV, h1]]
    exact ⟨F, panN M, D, by simp [afF], by simp [afM], rfl, h1, a, rsL_l h2 h1⟩
  · by_cases h3 : D < 2 * panN M
    · rw [show rifV D M = 114 by simp [rifV, h1, h3]]
      exact ⟨F + panN M, panN M, D - panN M, by simp [afF], by simp [afM], by omega, by omega, a, rsL_r h2 h1 h3⟩
    · rw [show rifV D M = 61 by simp [rifV, h1, h3]]
      exact ⟨F + 2 * panN M, M - 2 * panN M, D - 2 * panN M, by simp [afF], by simp [afM]; omega, by omega, by omega, by omega, rsL_e h2 h3⟩
theorem rifV_le (D M : Nat) : rifV D M ≤ 255 := by unfold rifV; (repeat' split) <;> omega
theorem byteCells_one {l : List UInt8} {v : Nat} (h : v ≤ 255) : byteCells (l ++ [UInt8.ofNat v]) = byteCells l ++ [.int .u8 (v : Int)] := by
  rw [byteCells_append]
  simp [byteCells, UInt8.toNat_ofNat']
  omega

def lenOf : Value → Nat
  | .slice _ n _ => n
  | _ => 0

set_option maxRecDepth 100000 in
set_option maxHeartbeats 4000000 in
theorem results_yes (P H : Nat) (hP1 : 1 ≤ P) (hP : P ≤ 1000) (hH : H < P) (w : World) :
    Calls Try.prog 40 #[.int .i64 P, .int .i64 H] w fun e w' => e = .returned (.tuple #[.string (txt (rsL P H)), .bool true]) ∧ Below w.heap.size w w' := by
  have h1 : inB (P : Int) 1 1000 = true := by simp [inB]; omega
  have h2 : inB (H : Int) 0 ((P : Int) - 1) = true := by simp [inB]; omega
  obtain ⟨j0, hj, hy0, hy1, hy2⟩ := info_parts byte_info
  go_enter Try.func40, Try.ntmps40
  go_wp2_with first | (go_at_call 46; refine (upToW_any _ _ _).mono ?_; rintro e wx ⟨rfl, rfl⟩; rw [h1]) | (go_at_call 54; refine (isPrR_any _ _ _).mono ?_; rintro e wx ⟨rfl, rfl⟩; rw [h2])
  go_loopw [6, 7, 8] (fun v p _ wr => ∃ (F D M k b : Nat) (A' : Option Addr) (c' : Nat) (pre : List UInt8), p = .pointer (some ⟨b, 0, none⟩) ∧ v = .slice A' k c' ∧ wr.ownsRow w.heap.size 5 1 (.slice A' k c') k (byteCells pre) ∧ b < wr.heap.size ∧ w.heap.size ≤ b ∧ wr.cell? ⟨b, 0, none⟩ = some (.int .i64 (F : Int)) ∧ wr.cell? ⟨b, 1, none⟩ = some (.int .i64 (M : Int)) ∧ wr.frozen? ⟨b, 0, none⟩ = false ∧ wr.frozen? ⟨b, 1, none⟩ = false ∧ Hid (∀ g, (Value.slice A' k c').ownBlock = some g → g ≠ b) ∧ H = F + D ∧ D < M ∧ M ≤ 1000 ∧ k + M ≤ 1000 ∧ Hid (pre ++ rsL M D = rsL P H) ∧ Below w.heap.size w wr) (fun v _ _ _ => 1000 - lenOf v)
  case atStart => exact ⟨0, H, P, 0, w.heap.size, none, 0, [], rfl, rfl, World.ownsRow_nil _ _ _ _, by simp, Nat.le_refl _, by simp [go_sem], by simp [go_sem], by simp [go_sem], by simp [go_sem], fun g hg => by simp [Value.ownBlock] at hg, by omega, hH, hP, by omega, rfl, by (repeat (first | (with_reducible exact Below.refl _ _) | (with_reducible assumption) | (with_reducible refine Below.drew ?_) | ((with_reducible refine balloc ?_ _ ?_); · (first | (simp; done) | (simp; omega) | omega)) | ((with_reducible refine bset ?_ _ ?_); · (first | (simp; done) | (simp; omega) | omega)) | (with_reducible refine bdrewN _ ?_) | ((with_reducible refine bcall ?_ (by assumption) ?_); · (first | (simp; done) | (simp; omega) | omega))))⟩
  case round =>
    obtain ⟨F, D, M, k, b, A', c', pre, rfl, rfl, hown, hbl, hbw, c0, c1, f0, f1, hne, hFD, hDM, hM, hkM, hT, hB⟩ := hrel
    have sB := hB.size
    have HFD := Lib.hid hFD
    have HFi : Hid ((F : Int) + (D : Int) = (H : Int)) := by simp only [Hid]; omega
    clear hFD
    by_cases hm : 2 ≤ M
    · have hmi : (M : Int) > 1 := by omega
      obtain ⟨F', M', D', eF, eM, eFD, hD', hM', hR⟩ := res_next (F := F) hm hDM
      have HRI := Lib.hid (fun wx => resultIf_any F D M (by have := HFD.out; omega) hM wx)
      rw [HFi.out] at HRI
      have HAF := Lib.hid (fun wx => after_any F M (rifV D M) (by have := HFD.out; omega) hM wx)
      rw [eF, eM] at HAF
      have hv := rifV_le D M
      have HBC := Lib.hid (byteCells_one (l := pre) hv)
      have HN : Hid ((pre ++ [UInt8.ofNat (rifV D M)]) ++ rsL M' D' = rsL P H) := by
        simp only [Hid]; rw [← hT.out, hR]; simp
      generalize rifV D M = v at *
      have HFD2 : Hid (H = F' + D') := by simp only [Hid]; rw [HFD.out]; exact eFD
      clear eF eM eFD hR hT
      go_wp2_with fail
      refine (HRI.out _).mono ?_; rintro e w1 ⟨rfl, hb1⟩
      have s1 := hb1.size
      have hc1 := fun a (h : a.block < wr.heap.size) => hb1.cell (p := a) h
      have o1 := own_later hown hb1 (Nat.le_refl _)
      have B1 : Below w.heap.size w w1 := hB.trans (hb1.mono sB)
      have d0 : w1.cell? ⟨b, 0, none⟩ = some (.int .i64 (F : Int)) := (hb1.cell (p := ⟨b, 0, none⟩) hbl).trans c0
      have d1 : w1.cell? ⟨b, 1, none⟩ = some (.int .i64 (M : Int)) := (hb1.cell (p := ⟨b, 1, none⟩) hbl).trans c1
      have g0 : w1.frozen? ⟨b, 0, none⟩ = false := (hb1.frozen (p := ⟨b, 0, none⟩) hbl).trans f0
      have g1 : w1.frozen? ⟨b, 1, none⟩ = false := (hb1.frozen (p := ⟨b, 1, none⟩) hbl).trans f1
      have hc3 : k + 1 ≤ maxLen := by simp only [maxLen]; omega
      have HO := Lib.hid o1
      have HBB := Lib.hid B1
      have HB1 := Lib.hid hb1
      clear hown hb1 hB o1 B1 c0 c1 f0 f1 hc1
      go_wp2_with (at_builtin; refine wpList_append_own _ rfl (.tmp 26) (.tmp 28) 58 rfl w.heap.size 5 j0 (.int .u8 0) 1 1 Try.underlying58 hj hy0 hy1 hy2 rfl (by decide) _ _ _ rfl (HO.out.alloc _) ⟨w1.heap.size, 0, none⟩ 1 1 [.int .u8 (v : Int)] rfl rfl (new1 _ _ _) (by intro u hu; simp at hu; subst hu; rfl) hc3 (by omega) (Nat.le_trans HBB.out.size (show w1.heap.size ≤ _ by simp)) ?_)
      intro v' w2 hown' hgrow _
      have hbr : some b ≠ (Value.slice A' k c').ownBlock := fun e => hne.out b e.symm rfl
      have b1l : b < w1.heap.size := Nat.lt_of_lt_of_le hbl s1
      have e0 : w2.cell? ⟨b, 0, none⟩ = some (.int .i64 (F : Int)) := hgrow.cell (a := ⟨b, 0, none⟩) ((World.cell?_alloc_lt _ _ _ b1l).trans d0) hbr
      have e1 : w2.cell? ⟨b, 1, none⟩ = some (.int .i64 (M : Int)) := hgrow.cell (a := ⟨b, 1, none⟩) ((World.cell?_alloc_lt _ _ _ b1l).trans d1) hbr
      have g0' : w2.frozen? ⟨b, 0, none⟩ = false := (hgrow.frozen_far ⟨b, 0, none⟩ (by simp; omega) hbr).trans ((World.frozen?_alloc_past _ _ _ b1l).trans g0)
      have g1' : w2.frozen? ⟨b, 1, none⟩ = false := (hgrow.frozen_far ⟨b, 1, none⟩ (by simp; omega) hbr).trans ((World.frozen?_alloc_past _ _ _ b1l).trans g1)
      have hb2 := gb_new (Nat.le_refl _) (HBB.out.alloc HBB.out.size (.cells #[.int .u8 (v : Int)] 5)) hgrow (fun g hg => (HO.out.lt g hg).1)
      have s2 : w1.heap.size < w2.heap.size := by have := hgrow.size; simp at this; omega
      have hne2 : ∀ g, v'.ownBlock = some g → g ≠ b := fun g hg e => by
        subst e
        rcases hown'.2 with ⟨q, _⟩ | ⟨g2, cap, cur, q, hb3, hg3, _⟩
        · rw [q] at hg; simp [Value.ownBlock] at hg
        · have hg2 : g2 = g := by rw [q] at hg; simpa [Value.ownBlock] using hg
          subst hg2
          subst q
          have hz := hown'.cellAt 0 (by omega)
          rw [e0] at hz
          obtain ⟨b0, hb0⟩ : ∃ b0 : Int, (byteCells pre ++ [Value.int .u8 (v : Int)])[0]? = some (.int .u8 b0) := by
            rw [← HBC.out]
            cases pre with
            | nil => exact ⟨_, rfl⟩
            | cons a r => exact ⟨_, rfl⟩
          rw [hb0] at hz
          simp at hz
      obtain ⟨A2, c2', rfl⟩ := own_slice hown'
      rw [← HBC.out] at hown'
      have HO2 := Lib.hid hown'
      have HB2 := Lib.hid hb2
      have HNE := Lib.hid hne2
      clear hgrow hown' hb2 hne2 HBC HO HBB HB1 d0 d1 g0 g1 hc3
      go_wp2_with fail
      refine (HAF.out _).mono ?_; rintro e w3 ⟨rfl, hb3⟩
      have s3 := hb3.size
      have k0 : w3.cell? ⟨b, 0, none⟩ = some (.int .i64 (F : Int)) := (hb3.cell (p := ⟨b, 0, none⟩) (show b < _ by omega)).trans e0
      have k1 : w3.cell? ⟨b, 1, none⟩ = some (.int .i64 (M : Int)) := (hb3.cell (p := ⟨b, 1, none⟩) (show b < _ by omega)).trans e1
      have r0 : w3.frozen? ⟨b, 0, none⟩ = false := (hb3.frozen (p := ⟨b, 0, none⟩) (show b < _ by omega)).trans g0'
      have r1 : w3.frozen? ⟨b, 1, none⟩ = false := (hb3.frozen (p := ⟨b, 1, none⟩) (show b < _ by omega)).trans g1'
      have o3 := own_later HO2.out hb3 (Nat.le_refl _)
      have B3 : Below w.heap.size w w3 := HB2.out.trans (hb3.mono HB2.out.size)
      have b3l : b < w3.heap.size := by omega
      have HO3 := Lib.hid o3
      have HB3 := Lib.hid B3
      clear o3 B3 hb3 e0 e1 g0' g1' HO2 HB2
      have hob : (Value.slice A2 (k + 1) c2').ownBlock ≠ some b := fun e => HNE.out b e rfl
      have oS := ((HO3.out.kept (Lib.grownBy_setCell w3 b 0 (.int .i64 (F' : Int))) (.inr hob)).kept (Lib.grownBy_setCell _ b 1 (.int .i64 (M' : Int))) (.inr hob))
      have OS := Lib.hid (own_later oS ((Below.refl _ _).alloc (Nat.le_refl _) (.cells #[.int .i64 (F' : Int), .int .i64 (M' : Int)] 55)) (Nat.le_refl _))
      have HLT := Lib.hid (fun g h => (HO3.out.lt g h).2)
      have hB3 := HB3.out
      clear oS HO3
      go_wp2
      refine ⟨⟨F', D', M', k + 1, w3.heap.size, A2, c2', _, rfl, rfl, OS.out, by simp, by omega, by simp [go_sem], by simp [go_sem], by simp [go_sem], by simp [go_sem], fun g hg => by have := HLT.out g hg; omega, HFD2.out, hD', by omega, by omega, HN.out, ?_⟩, by simp [lenOf]; omega⟩
      (repeat (first | (with_reducible exact Below.refl _ _) | (with_reducible assumption) | (with_reducible refine Below.drew ?_) | ((with_reducible refine balloc ?_ _ ?_); · (first | (simp; done) | (simp; omega) | omega)) | ((with_reducible refine bset ?_ _ ?_); · (first | (simp; done) | (simp; omega) | omega)) | (with_reducible refine bdrewN _ ?_) | ((with_reducible refine bcall ?_ (by assumption) ?_); · (first | (simp; done) | (simp; omega) | omega))))
    · have hmi : ¬ (M : Int) > 1 := by omega
      have HST := Lib.hid (run_string_any hown)
      have HE : Hid (pre = rsL P H) := by
        have h := hT.out
        rw [rsL_one (by omega), List.append_nil] at h
        exact h
      have hst : (convert 58 9 (.slice A' k c')).run Try.prog wr = .ok (.string (txt (rsL P H))) wr := by rw [← HE.out]; exact HST.out
      obtain ⟨t, ht⟩ : ∃ t, t = txt (rsL P H) := ⟨_, rfl⟩
      rw [← ht] at hst
      have HTT := Lib.hid ht
      clear hT hown ht HST
      go_wp2
      go_ret2
      exact ⟨by rw [← HTT.out]; rfl, hB⟩

set_option maxHeartbeats 1000000 in
theorem results_any (p h : Int) (w : World) :
    Calls Try.prog 40 #[.int .i64 p, .int .i64 h] w fun e w' => e = .returned (.tuple #[.string (rsN p h), .bool (rsB p h)]) ∧ Below w.heap.size w w' := by
  cases h1 : inB p 1 1000
  · have hB : rsB p h = false := by simp [rsB, h1]
    rw [rsN_no hB, hB]
    go_enter Try.func40, Try.ntmps40
    go_wp2_with (go_at_call 46; refine (upToW_any _ _ _).mono ?_; rintro e wx ⟨rfl, rfl⟩; rw [h1])
    go_ret2
    exact ⟨rfl, Below.refl _ _⟩
  · obtain ⟨P, rfl, p1, p2⟩ := inB_nat (m := 1000) h1
    cases h2 : inB h 0 ((P : Int) - 1)
    · have hB : rsB (P : Int) h = false := by simp [rsB, h2]
      rw [rsN_no hB, hB]
      go_enter Try.func40, Try.ntmps40
      go_wp2_with first | (go_at_call 46; refine (upToW_any _ _ _).mono ?_; rintro e wx ⟨rfl, rfl⟩; rw [h1]) | (go_at_call 54; refine (isPrR_any _ _ _).mono ?_; rintro e wx ⟨rfl, rfl⟩; rw [h2])
      go_ret2
      exact ⟨rfl, Below.refl _ _⟩
    · have h2' := inB_true h2
      obtain ⟨H, rfl⟩ : ∃ q : Nat, h = q := ⟨h.toNat, by omega⟩
      have hB : rsB (P : Int) (H : Int) = true := by simp [rsB, h1, h2]
      rw [show rsN (P : Int) (H : Int) = txt (rsL P H) by simp [rsN, hB], hB]
      exact results_yes P H p1 p2 (by omega) w
end Go.Proofs.Ytcggiekhlophlaa
