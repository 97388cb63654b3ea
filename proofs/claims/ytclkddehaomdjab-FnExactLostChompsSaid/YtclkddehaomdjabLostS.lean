/-
  Contracts: CountLostChomps and LostChomps of the model and of the program.
-/
import Derived.Test.YtclkddehaomdjabLostC
import Derived.Test.YtclkddehaomdjabSel
import Derived.Test.YtclkddehaomdjabCountCh
namespace Go.Proofs.Ytclkddehaomdjab
open Go.RowKit
set_option linter.unusedVariables false

theorem chs_ok {H W k : Nat} (hH : H ≤ 6) (hW : W ≤ 6) (h : k < (chs H W []).length) : ChOK (chs H W [])[k] := ((mem_all hH hW).1 (List.getElem_mem h)).1
/-- what CountLostChomps returns -/
def clV (x y : Int) : Int := if (sideB x && sideB y) = true then ((lostL y.toNat x.toNat).length : Nat) else 0

set_option maxRecDepth 100000 in
set_option maxHeartbeats 2000000 in
theorem sCountLost_any (x y : Int) (w : World) :
    Calls Try.prog 13 #[.int .i64 x, .int .i64 y] w fun e w' => e = .returned (.tuple #[.int .i64 (clV x y), .bool (sideB x && sideB y)]) ∧ Below w.heap.size w w' := by
  cases h : (sideB x && sideB y)
  · rw [show clV x y = 0 by simp only [clV, h]; rfl]
    go_enter Try.func13, Try.ntmps13
    go_wp2_with fail
    refine (cmSides_any _ _ _).mono ?_; rintro e wx ⟨rfl, rfl⟩
    rw [h]
    go_wp2
    go_ret2
    exact ⟨rfl, Below.refl _ _⟩
  · have hV : clV x y = ((lostL y.toNat x.toNat).length : Nat) := by simp only [clV, h]; rfl
    obtain ⟨W, H, rfl, rfl, h1, h2, h3, h4⟩ := sides_nat h
    simp only [Int.toNat_natCast] at hV
    have HV := Lib.hid hV
    have HA := Lib.hid (fun wx => cmAll_any W H wx h2 h4)
    have HH := Lib.hid (fun wx => cmHeaps_any W H wx h2 h4)
    clear hV
    go_enter Try.func13, Try.ntmps13
    go_wp2_with fail
    refine (cmSides_any _ _ _).mono ?_; rintro e wx ⟨rfl, rfl⟩
    rw [h]
    go_wp2_with fail
    refine (HH.out _).mono ?_; rintro e w1 ⟨g, tbl, rfl, ho, htab, hb1⟩
    have HO := Lib.hid ho
    have HT := Lib.hid htab
    have HB1 := Lib.hid hb1
    have s1 := hb1.size
    clear ho htab hb1
    go_wp2_with fail
    refine (HA.out _).mono ?_; rintro e w2 ⟨A1, m, c1, rfl, hL, hss, hb2⟩
    have hO2 := own_later HO.out hb2 (Nat.le_refl _)
    obtain ⟨AC, CC, hac⟩ := hss
    have HAC := Lib.hid hac
    have HLL := Lib.hid hL
    have HB2 := Lib.hid (HB1.out.trans (hb2.mono s1))
    have hlen : tbl.length = 117649 := by have := hO2.1; rw [length_intCells] at this; omega
    have HO2 := Lib.hid hO2
    have hm923 : m ≤ 923 := by rw [← hL, length_chs]; exact cntC_le h4 h2
    clear hac hL hb2 HO hO2 HB1
    go_wp2
    go_loop [6, 21] (fun v i => ∃ k j : Nat, k ≤ m ∧ j ≤ k ∧ i = .int .i64 k ∧ v = .int .i64 j ∧ Hid ((lsK H W k).length = j)) (fun _ i => m - (intOf i).toNat)
    case atStart => exact ⟨0, 0, Nat.zero_le _, Nat.le_refl _, rfl, rfl, rfl⟩
    case round =>
      obtain ⟨k, j, hk, hjk, rfl, rfl, hj⟩ := hrel
      by_cases hlt : k < m
      · have hkl : k < (chs H W []).length := by rw [HLL.out]; exact hlt
        obtain ⟨bm, rfl, hbm1, hbm⟩ := own_at HAC.out.top (by omega)
        have pm := HAC.out.top.cellAt k (by omega)
        rw [ssCells_at hlt] at pm
        have hrow := HAC.out.row k hlt
        have hln : lsR (chs H W []) k = (chs H W [])[k] := by simp [lsR, List.getD, List.getElem?_eq_getElem hkl]
        have HOK := Lib.hid (chs_ok h4 h2 hkl)
        have htv := HT.out k hkl hkl
        have HSN := Lib.hid (lsK_succ hkl)
        rw [hln] at pm hrow
        generalize (chs H W [])[k] = l at *
        obtain ⟨kn, hkn⟩ : ∃ kn : Nat, keyI l = kn := ⟨(keyI l).toNat, by have := (keyI_in HOK.out).1; omega⟩
        have hkn6 : kn < 117649 := by have := (keyI_in HOK.out).2; omega
        obtain ⟨gv, hgv⟩ : ∃ gv : Nat, gr l = gv := ⟨_, rfl⟩
        have hgv6 : gv < 37 := by have := gr_le HOK.out; omega
        rw [hkn, hgv] at htv
        simp only [Int.toNat_natCast] at htv
        have hlb : lsB l = !decide (0 < (gv : Int)) := by simp only [lsB, grI, hgv]
        have HKC : Hid (∀ (wx : World), Rd wx 1 (AC k) l.length (intCells l) → Calls Try.prog 39 #[.slice (AC k) l.length (CC k)] wx fun e w' => e = .returned (.int .i64 (kn : Int)) ∧ wx = w') := fun wx h => by
          have q := cmKey_any (AC k) l.length (CC k) l wx h HOK.out
          rw [hkn] at q
          exact q
        have HRW := Lib.hid (Rd.of_own hrow)
        have hkni : (kn : Int) < 117649 := by omega
        have htc := HO2.out.cellAt kn (by omega)
        rw [show (intCells tbl)[kn]? = some (.int .i64 ((gv : Int) + 1)) by
          have hk2 : kn < tbl.length := by rw [hlen]; exact hkn6
          simp only [intCells, List.getElem?_map, List.getElem?_eq_getElem hk2, Option.map_some]
          rw [← htv, getD_lt hk2]] at htc
        have HLB := Lib.hid hlb
        clear hln hrow htv hkn hgv hlb
        by_cases h0 : gv = 0
        · have hd : ((gv : Int) + 1 == 1) = true := by rw [h0]; rfl
          have HJ : Hid ((lsK H W (k + 1)).length = j + 1) := by
            have hh := HSN.out
            rw [HLB.out, h0] at hh
            simp only [Hid]
            rw [hh, List.length_append, hj.out]; rfl
          go_wp2_with fail
          refine (HKC.out _ HRW.out).mono ?_; rintro e wx ⟨rfl, rfl⟩
          go_wp2
          go_round
          case rel => exact ⟨k + 1, j + 1, by omega, by omega, by go_num, by go_num, HJ⟩
          case measure => simp [intOf]; omega
        · have hd : ((gv : Int) + 1 == 1) = false := by simp; omega
          have HJ : Hid ((lsK H W (k + 1)).length = j) := by
            have hh := HSN.out
            rw [HLB.out, show decide (0 < (gv : Int)) = true by simp; omega] at hh
            simp only [Hid]
            rw [hh, List.length_append, hj.out]; rfl
          go_wp2_with fail
          refine (HKC.out _ HRW.out).mono ?_; rintro e wx ⟨rfl, rfl⟩
          go_wp2
          go_round
          case rel => exact ⟨k + 1, j, by omega, by omega, by go_num, rfl, HJ⟩
          case measure => simp [intOf]; omega
      · have HJ : Hid ((lostL H W).length = j) := by simp only [Hid]; rw [← lsK_all (k := k) (by rw [HLL.out]; omega)]; exact hj.out
        go_wp2
        go_ret2
        exact ⟨by rw [HV.out, HJ.out]; rfl, HB2.out⟩

set_option maxHeartbeats 1000000 in
theorem countLost_any (x y : Int) (w : World) :
    Calls Try.prog 14 #[.int .i64 x, .int .i64 y] w fun e w' => e = .returned (.tuple #[.int .i64 (clV x y), .bool (sideB x && sideB y)]) ∧ Below w.heap.size w w' := by
  cases h : (sideB x && sideB y)
  · rw [show clV x y = 0 by simp only [clV, h]; rfl]
    cases h1 : sideB x
    · go_enter Try.func14, Try.ntmps14
      go_wp2_with fail
      refine (isChompSide_any _ _).mono ?_; rintro e wx ⟨rfl, rfl⟩
      rw [h1]
      go_wp2
      go_ret2
      exact ⟨rfl, Below.refl _ _⟩
    · have h2 : sideB y = false := by simpa [h1] using h
      go_enter Try.func14, Try.ntmps14
      go_wp2_with fail
      refine (isChompSide_any _ _).mono ?_; rintro e wx ⟨rfl, rfl⟩
      rw [h1]
      go_wp2_with fail
      refine (isChompSide_any _ _).mono ?_; rintro e wx ⟨rfl, rfl⟩
      rw [h2]
      go_wp2
      go_ret2
      exact ⟨rfl, Below.refl _ _⟩
  · have hV : clV x y = ((lostL y.toNat x.toNat).length : Nat) := by simp only [clV, h]; rfl
    have hx : sideB x = true := by simp only [Bool.and_eq_true] at h; exact h.1
    have hy : sideB y = true := by simp only [Bool.and_eq_true] at h; exact h.2
    obtain ⟨a, b, rfl, rfl, h1, h2, h3, h4⟩ := sides_nat h
    have HV := Lib.hid hV
    have HA := Lib.hid (fun wx => lostChomps_any a b wx h2 h4)
    clear hV h
    go_enter Try.func14, Try.ntmps14
    go_wp2_with fail
    refine (isChompSide_any _ _).mono ?_; rintro e wx ⟨rfl, rfl⟩
    rw [hx]
    go_wp2_with fail
    refine (isChompSide_any _ _).mono ?_; rintro e wx ⟨rfl, rfl⟩
    rw [hy]
    go_wp2_with fail
    refine (HA.out _).mono ?_; rintro e w1 ⟨A', m', c', rfl, hL, h923, ho, hb1⟩
    have HL := Lib.hid hL
    clear hL ho
    go_wp2
    go_ret2
    exact ⟨by rw [HV.out]; simp only [Int.toNat_natCast]; rw [HL.out]; rfl, hb1⟩

end Go.Proofs.Ytclkddehaomdjab
