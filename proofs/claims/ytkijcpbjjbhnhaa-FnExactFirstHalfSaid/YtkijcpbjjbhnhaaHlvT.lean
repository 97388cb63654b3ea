/-
  Contracts: the order of lists, of the model (skBefore), l1Abs. Conditions: none.
-/
import Derived.Test.YtkijcpbjjbhnhaaHlvW
import Derived.Test.YtkijcpbjjbhnhaaMinMax
namespace Go.Proofs.Ytkijcpbjjbhnhaa
open Go.RowKit
set_option linter.unusedVariables false
set_option linter.unusedSimpArgs false

theorem bef_drop {a b : List Int} {k : Nat} (ha : k < a.length) (hb : k < b.length) : bef (a.drop k) (b.drop k) = (decide (a[k] < b[k]) || (decide (a[k] = b[k]) && bef (a.drop (k + 1)) (b.drop (k + 1)))) := by
  rw [List.drop_eq_getElem_cons ha, List.drop_eq_getElem_cons hb]
  rfl
theorem bef_end {a b : List Int} {k : Nat} (hk : k ≤ a.length) (hk2 : k ≤ b.length) (h : ¬ (k < a.length ∧ k < b.length)) : bef (a.drop k) (b.drop k) = decide (a.length < b.length) := by
  by_cases ha : k < a.length
  · have hb : k = b.length := by omega
    rw [List.drop_eq_getElem_cons ha, List.drop_of_length_le (show b.length ≤ k by omega)]
    simp only [bef]
    symm; simp; omega
  · have e : k = a.length := by omega
    rw [List.drop_of_length_le (show a.length ≤ k by omega)]
    by_cases hb : k < b.length
    · rw [List.drop_eq_getElem_cons hb]
      simp only [bef]
      symm; simp; omega
    · rw [List.drop_of_length_le (show b.length ≤ k by omega)]
      simp only [bef]
      symm; simp; omega

set_option maxRecDepth 100000 in
set_option maxHeartbeats 2000000 in
theorem skBefore_any (A B : Option Addr) (n c m d : Nat) (a b : List Int) (w : World) (ha : Rd w 1 A n (intCells a)) (hb : Rd w 1 B m (intCells b)) (hn : n ≤ 1000) (hm : m ≤ 1000) :
    Calls Try.prog 68 #[.slice A n c, .slice B m d] w fun e w' => e = .returned (.bool (bef a b)) ∧ Below w.heap.size w w' := by
  have HLA := Lib.hid ha.ilen
  have HLB := Lib.hid hb.ilen
  go_enter Try.func68, Try.ntmps68
  go_wp2
  go_loopw [5] (fun i wr => ∃ k : Nat, k ≤ n ∧ k ≤ m ∧ i = .int .i64 (k : Int) ∧ Hid (bef a b = bef (a.drop k) (b.drop k)) ∧ Below w.heap.size w wr) (fun i _ => n - (intOf i).toNat)
  case atStart => exact ⟨0, Nat.zero_le _, Nat.zero_le _, rfl, by simp [Hid], Below.refl _ _⟩
  case round =>
    obtain ⟨k, hk, hk2, rfl, hE, hB⟩ := hrel
    by_cases hlt : k < n ∧ k < m
    · obtain ⟨hlt1, hlt2⟩ := hlt
      obtain ⟨b1, o1, rfl, l1, hx, p1⟩ := (ha.later hB (Nat.le_refl _)).num hlt1
      obtain ⟨b2, o2, rfl, l2, hy, p2⟩ := (hb.later hB (Nat.le_refl _)).num hlt2
      have HD := Lib.hid (bef_drop hx hy)
      have hi1 : ((k : Int) < (n : Int)) = True := by simp; omega
      have hi2 : ((k : Int) < (m : Int)) = True := by simp; omega
      generalize a[k] = x at *
      generalize b[k] = y at *
      clear hx hy
      by_cases hxy : x = y
      · have HE2 : Hid (bef a b = bef (a.drop (k + 1)) (b.drop (k + 1))) := by
          simp only [Hid]; rw [hE.out, HD.out]; simp [hxy]
        subst hxy
        clear hE HD
        go_wp2
        go_quiet (fail)
        go_wp2
        go_roundw
        case rel => exact ⟨k + 1, by omega, by omega, by go_num, HE2, by (repeat (first | (with_reducible exact Below.refl _ _) | (with_reducible assumption) | (with_reducible refine Below.drew ?_) | ((with_reducible refine balloc ?_ _ ?_); · (first | (simp; done) | (simp; omega) | omega)) | ((with_reducible refine bset ?_ _ ?_); · (first | (simp; done) | (simp; omega) | omega)) | (with_reducible refine bdrewN _ ?_) | ((with_reducible refine bcall ?_ (by assumption) ?_); · (first | (simp; done) | (simp; omega) | omega))))⟩
        case measure => simp [intOf]; omega
      · have HE2 : Hid (bef a b = decide (x < y)) := by
          simp only [Hid]; rw [hE.out, HD.out]; simp [hxy]
        have hne : (x != y) = true := by simp; exact hxy
        have hne2 : (x == y) = false := by simp; exact hxy
        by_cases hlt3 : x < y
        · have hd : decide (x < y) = true := decide_eq_true hlt3
          rw [hd] at HE2
          clear hE HD
          go_wp2
          go_quiet (fail)
          go_wp2
          go_quiet (fail)
          go_wp2
          go_ret
          exact ⟨ret_bool HE2.out.symm, by (repeat (first | (with_reducible exact Below.refl _ _) | (with_reducible assumption) | (with_reducible refine Below.drew ?_) | ((with_reducible refine balloc ?_ _ ?_); · (first | (simp; done) | (simp; omega) | omega)) | ((with_reducible refine bset ?_ _ ?_); · (first | (simp; done) | (simp; omega) | omega)) | (with_reducible refine bdrewN _ ?_) | ((with_reducible refine bcall ?_ (by assumption) ?_); · (first | (simp; done) | (simp; omega) | omega))))⟩
        · have hd : decide (x < y) = false := decide_eq_false hlt3
          rw [hd] at HE2
          clear hE HD
          go_wp2
          go_quiet (fail)
          go_wp2
          go_quiet (fail)
          go_wp2
          go_ret
          exact ⟨ret_bool HE2.out.symm, by (repeat (first | (with_reducible exact Below.refl _ _) | (with_reducible assumption) | (with_reducible refine Below.drew ?_) | ((with_reducible refine balloc ?_ _ ?_); · (first | (simp; done) | (simp; omega) | omega)) | ((with_reducible refine bset ?_ _ ?_); · (first | (simp; done) | (simp; omega) | omega)) | (with_reducible refine bdrewN _ ?_) | ((with_reducible refine bcall ?_ (by assumption) ?_); · (first | (simp; done) | (simp; omega) | omega))))⟩
    · have HE2 : Hid (bef a b = decide (n < m)) := by
        simp only [Hid]; rw [hE.out, bef_end (by rw [HLA.out]; omega) (by rw [HLB.out]; omega) (by rw [HLA.out, HLB.out]; exact hlt), HLA.out, HLB.out]
      by_cases h1 : k < n
      · have h2 : ¬ k < m := fun h => hlt ⟨h1, h⟩
        have hd : decide (n < m) = false := by simp; omega
        rw [hd] at HE2
        clear hlt hE
        go_wp2
        go_ret
        exact ⟨ret_bool HE2.out.symm, hB⟩
      · have hkn : k = n := by omega
        by_cases h3 : n < m
        · have hd : decide (n < m) = true := by simp; omega
          rw [hd] at HE2
          clear hlt hE
          go_wp2
          go_ret
          exact ⟨ret_bool HE2.out.symm, hB⟩
        · have hd : decide (n < m) = false := by simp; omega
          rw [hd] at HE2
          clear hlt hE
          go_wp2
          go_ret
          exact ⟨ret_bool HE2.out.symm, hB⟩

set_option maxHeartbeats 400000 in
theorem l1Abs_any (x : Int) (w : World) (h1 : -1000000 ≤ x) (h2 : x ≤ 1000000) : Calls Try.prog 67 #[.int .i64 x] w fun e w' => e = .returned (.int .i64 (max x (-x))) ∧ w = w' := by
  go_enter Try.func67, Try.ntmps67
  go_wp2_with fail
  refine (l1Most_max _ _ _).mono ?_; rintro e wx ⟨rfl, rfl⟩
  go_wp2
  go_ret
  exact ⟨rfl, rfl⟩

end Go.Proofs.Ytkijcpbjjbhnhaa
