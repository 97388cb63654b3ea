/-
  Contract: FirstStrips of the program.
-/
import Derived.Test.YtbjjpndhfgfedaaFirstsS
namespace Go.Proofs.Ytbjjpndhfgfedaa
open Go.RowKit

set_option maxRecDepth 100000 in
set_option maxHeartbeats 4000000 in
theorem firstStrips_any (A : Option Addr) (n c : Nat) (ss : List ByteArray) (t : Int) (w : World) (hr : Rd w 1 A n (strCells ss)) :
    Calls Try.prog 47 #[.slice A n c, .int .i64 t] w fun e w' => ∃ A' n' c', e = .returned (.tuple #[.slice A' n' c', .bool (poorOk ss t)]) ∧ w'.ownsRow w.heap.size 3 1 (.slice A' n' c') n' (intCells (firstR ss t)) ∧ Below w.heap.size w w' := by
  cases hB : nutsB ss
  · have hk : poorOk ss t = false := by simp [poorOk, hB]
    rw [firstR_no hk, hk]
    clear hk
    go_enter Try.func47, Try.ntmps47
    go_wp2_with fail
    refine (areNuts_any _ _ _ _ _ hr).mono ?_; rintro e w1 ⟨rfl, rfl⟩
    rw [hB]
    go_wp2
    go_ret2
    exact ⟨none, 0, 0, rfl, World.ownsRow_nil _ _ _ _, Below.refl _ _⟩
  · have hb := NB.of hB
    have hl := hr.slen
    rw [hl] at hb
    cases hS : shareB t (nutW ss)
    · have hk : poorOk ss t = false := by simp [poorOk, hS]
      rw [firstR_no hk, hk]
      clear hk hl
      have HS := Lib.hid hS
      have hfld := fun wx => bar_field0 (nutW ss) n wx
      clear hS
      go_enter Try.func47, Try.ntmps47
      go_wp2_with fail
      refine (areNuts_any _ _ _ _ _ hr).mono ?_; rintro e w1 ⟨rfl, rfl⟩
      rw [hB]
      go_wp2_with fail
      refine (barOf_any _ _ _ _ ss _ hr hb).mono ?_; rintro e w1 ⟨rfl, hb1⟩
      go_wp2_with fail
      refine (canShare_any _ _ _).mono ?_; rintro e w2 ⟨rfl, rfl⟩
      rw [HS.out]
      go_wp2
      go_ret2
      exact ⟨none, 0, 0, rfl, World.ownsRow_nil _ _ _ _, hb1⟩
    · obtain ⟨hk, _⟩ := poor_some hB hl hS
      rw [firstR_yes hk hl, hk]
      clear hk hl
      obtain ⟨b1, b2, b3⟩ := share_bounds hS
      obtain ⟨s0n, hts⟩ : ∃ s0n : Nat, (t - 1).toNat = s0n := ⟨_, rfl⟩
      rw [hts]
      have HSM := Lib.hid (lines_small hb true)
      have hW8 := hb.w8
      have HLN : Hid ((linesL ss (nutW ss) n true).length = nutW ss) := by simp only [Hid]; rw [length_linesL]; rfl
      have HLNS := Lib.hid (fun (w : World) hr => lineNuts_lines A n c (nutW ss) ss true w hr hb)
      have HBAR := Lib.hid (fun (w : World) hr => barOf_any A n c (nutW ss) ss w hr hb)
      have HS := Lib.hid hS
      have hfld := fun wx => bar_field0 (nutW ss) n wx
      generalize linesL ss (nutW ss) n true = L at *
      have HPO := Lib.hid (fun (b o c : Nat) (w : World) (hr : Rd w 1 (some ⟨b, o, none⟩) (nutW ss) (intCells L)) (hc : nutW ss ≤ c) => poorest_any s0n b o (nutW ss) c L t w hr HSM.out hc hW8 (by omega) (by omega))
      obtain ⟨P, hP⟩ : ∃ P, P = pStrip s0n L := ⟨_, rfl⟩
      rw [← hP] at HPO ⊢
      obtain ⟨R, hR⟩ : ∃ R, R = firstsL s0n L P := ⟨_, rfl⟩
      rw [← hR]
      have HR := Lib.hid hR
      have HP := Lib.hid hP
      have HB := Lib.hid hb
      clear hP hR hS hb
      obtain ⟨i0, hi, hz0, hz1, hz2⟩ := info_parts int_info
      generalize nutW ss = W at *
      go_enter Try.func47, Try.ntmps47
      go_wp2_with fail
      refine (areNuts_any _ _ _ _ _ hr).mono ?_; rintro e w1 ⟨rfl, rfl⟩
      rw [hB]
      go_wp2_with fail
      refine (HBAR.out _ hr).mono ?_; rintro e w1 ⟨rfl, hb1⟩
      go_wp2_with fail
      refine (canShare_any _ _ _).mono ?_; rintro e w2 ⟨rfl, rfl⟩
      rw [HS.out]
      go_wp2_with fail
      refine (HLNS.out _ (hr.later hb1 (Nat.le_refl _))).mono ?_; rintro e w3 ⟨A1, n1, c1, rfl, own1, hb3⟩
      have rd1 := Rd.of_own own1
      have hc1 := own_cap own1
      have hn1 : n1 = W := by have h := rd1.ilen; have h2 := HLN.out; omega
      subst hn1
      obtain ⟨g, o, rfl, _, _⟩ := rd1.2 (by omega)
      go_wp2_with fail
      refine (HPO.out _ _ _ _ rd1 hc1).mono ?_; rintro e w4 ⟨rfl, hb4⟩
      go_wp2
      clear HPO HLNS HBAR
      have HRD : Hid (∀ wx, Below w3.heap.size w3 wx → Rd wx 1 (some ⟨g, o, none⟩) n1 (intCells L)) := fun wx h => rd1.later h (Nat.le_refl _)
      have HB13 := Lib.hid (bcall hb1.size hb3 hb1)
      have HS13 := Lib.hid (Nat.le_trans hb1.size hb3.size)
      clear hb1 hb3 own1 rd1 hfld
      go_loopw [1, 6, 7, 9] (fun tv v cv _ wr => ∃ (tt : Int) (s oo nn cc x : Nat) (L' pre : List Int) (A' : Option Addr) (c' : Nat), tv = .int .i64 tt ∧ Hid (tt = (s : Int) + 1) ∧ 1 ≤ tt ∧ tt ≤ 5 ∧ cv = .slice (some ⟨g, oo, none⟩) nn cc ∧ nn ≤ 8 ∧ tt ≤ nn ∧ nn ≤ cc ∧ v = .slice A' x c' ∧ x + tt ≤ 8 ∧ Hid (∀ wx, Below w3.heap.size w3 wx → Rd wx 1 (some ⟨g, oo, none⟩) nn (intCells L')) ∧ Hid (Small L') ∧ Hid (L'.length = nn) ∧ Hid (P ≤ pStrip s L') ∧ Hid (pre ++ firstsL s L' P = R) ∧ wr.ownsRow w3.heap.size 3 1 (.slice A' x c') x (intCells pre) ∧ Below w3.heap.size w3 wr) (fun tv _ _ _ _ => (intOf tv).toNat)
      case atStart => exact ⟨t, s0n, o, n1, c1, 0, L, [], none, 0, rfl, (by simp only [Hid]; omega), b1, b3, rfl, hW8, b2, hc1, rfl, by omega, HRD, HSM, HLN, Int.le_of_eq HP.out, HR.out.symm, World.ownsRow_nil _ _ _ _, hb4⟩
      case round =>
        obtain ⟨tt, s, oo, nn, cc, x, L', pre, A', c', rfl, HT, ht1, ht5, rfl, hn8, htn, hnc, rfl, hx, HRx, HSx, HLx, HPS, HRS, hown, hBl⟩ := hrel
        have sB := hBl.size
        cases s with
        | zero =>
          have ht : tt = 1 := by have := HT.out; omega
          have HE : Hid (pre ++ [(nn : Int)] = R) := by
            have h := HRS.out
            simp only [firstsL] at h
            rw [HLx.out] at h
            exact h
          subst ht
          have hc3 : x + 1 ≤ maxLen := by simp only [maxLen]; omega
          clear HRS HPS HP HR
          go_wp2_with (at_builtin; refine wpList_append_own _ rfl (.tmp 45) (.tmp 48) 29 rfl w3.heap.size 3 i0 (.int .i64 0) 1 8 Try.underlying29 hi hz0 hz1 hz2 rfl (by decide) _ _ _ rfl (hown.alloc _) ⟨wr.heap.size, 0, none⟩ 1 1 [_] rfl rfl (new1 _ _ _) (int_oneCell [_]) hc3 (by omega) (Nat.le_trans sB (by simp)) ?_)
          intro v' w2 hown' hgrow _
          have hb2 := gb_new (Nat.le_refl _) (hBl.alloc sB _) hgrow (fun g hg => (hown.lt g hg).1)
          obtain ⟨A2, c2, rfl⟩ := own_slice hown'
          clear hgrow hown hBl hc3
          go_wp2
          go_ret2
          exact ⟨A2, x + 1, c2, rfl, own_base (by rw [← HE.out, intCells_append]; exact hown') HS13.out, bcall HS13.out hb2 HB13.out⟩
        | succ s =>
          have ht : 1 < tt := by have := HT.out; omega
          obtain ⟨k0, hk1, hk2, hk3⟩ := firsts_hit HSx.out (by rw [HLx.out]; have := HT.out; omega) HPS.out
          rw [HLx.out] at hk2
          have HK3 := Lib.hid hk3
          have hk2' : (k0 : Int) + (tt - 1) ≤ nn := by have := HT.out; omega
          clear hk3 hk2
          go_wp2
          go_loopw [9] (fun i wx => ∃ k : Nat, 1 ≤ k ∧ k ≤ k0 ∧ i = .int .i64 k ∧ Hid (∀ j, 1 ≤ j → j < k → pFirst s L' j < P) ∧ wx.ownsRow w3.heap.size 3 1 (.slice A' x c') x (intCells pre) ∧ Below w3.heap.size w3 wx) (fun i _ => k0 + 1 - (intOf i).toNat)
          case atStart => exact ⟨1, Nat.le_refl _, hk1, by go_num, (fun j a b => by omega), hown, hBl⟩
          case round =>
            clear hown hBl sB
            obtain ⟨k, hk1', hkk, rfl, HLT, hown, hBl⟩ := hrel
            have sB := hBl.size
            have HWF := Lib.hid (fun (wx : World) (hr : Rd wx 1 (some ⟨g, oo, none⟩) nn (intCells L')) => withFirst_any s (poorest_any s) g oo nn cc k L' tt wx hr HSx.out hnc hn8 hk1' (by have := HT.out; omega) (by have := HT.out; omega))
            by_cases hq : pFirst s L' k < P
            · have hk' : k + 1 ≤ k0 := by
                rcases Nat.lt_or_ge k k0 with h2 | h2
                · omega
                · have e : k = k0 := by omega
                  have := HK3.out
                  rw [← e] at this
                  omega
              have HLT' : Hid (∀ j, 1 ≤ j → j < k + 1 → pFirst s L' j < P) := by
                intro j a b
                rcases Nat.lt_or_ge j k with h2 | h2
                · exact HLT.out j a h2
                · have e : j = k := by omega
                  rw [e]; exact hq
              generalize pFirst s L' k = q at *
              go_wp2_with fail
              refine (HWF.out _ (HRx.out _ hBl)).mono ?_; rintro e w5 ⟨rfl, hb5⟩
              have hown5 := own_later hown hb5 (Nat.le_refl _)
              have hB5 := bcall sB hb5 hBl
              clear hown hBl hb5
              go_wp2
              go_roundw
              case rel => exact ⟨k + 1, by omega, hk', by go_num, HLT', hown5, hB5⟩
              case measure => simp [intOf]; omega
            · have HPN : Hid (P ≤ pStrip s (L'.drop k)) := pass_on (by omega)
              have HRN : Hid ((pre ++ [(k : Int)]) ++ firstsL s (L'.drop k) P = R) := by
                have e := firsts_step (P := P) hk1' (by rw [HLx.out]; have := HT.out; omega) (by omega) HLT.out
                have h := HRS.out
                rw [e] at h
                simp only [Hid]
                rw [← h]
                simp
              have HSN : Hid (Small (L'.drop k)) := HSx.out.drop k
              have HLN' : Hid ((L'.drop k).length = nn - k) := by simp only [Hid]; rw [List.length_drop, HLx.out]
              have HRDN : Hid (∀ wx, Below w3.heap.size w3 wx → Rd wx 1 (some ⟨g, oo + k, none⟩) (nn - k) (intCells (L'.drop k))) := fun wx h => Rd.idrop (HRx.out wx h) (by omega)
              generalize pFirst s L' k = q at *
              generalize L'.drop k = L2 at *
              have u2 : (0 : Int) ≤ (k : Int) := by omega
              have u3 : (k : Int) ≤ (nn : Int) := by omega
              have u4 : (k : Int) ≤ (cc : Int) := by omega
              have u5 : ¬ cc = k := by omega
              have hc3 : x + 1 ≤ maxLen := by simp only [maxLen]; omega
              go_wp2_with fail
              refine (HWF.out _ (HRx.out _ hBl)).mono ?_; rintro e w5 ⟨rfl, hb5⟩
              have hown5 := own_later hown hb5 (Nat.le_refl _)
              have hB5 := bcall sB hb5 hBl
              have sB5 := hB5.size
              clear hown hBl hb5
              go_wp2_with (at_builtin; refine wpList_append_own _ rfl (.tmp 38) (.tmp 40) 29 rfl w3.heap.size 3 i0 (.int .i64 0) 1 8 Try.underlying29 hi hz0 hz1 hz2 rfl (by decide) _ _ _ rfl (hown5.alloc _) ⟨w5.heap.size, 0, none⟩ 1 1 [_] rfl rfl (new1 _ _ _) (int_oneCell [_]) hc3 (by omega) (Nat.le_trans sB5 (by simp)) ?_)
              intro v' w2 hown' hgrow _
              have hb2 := gb_new (Nat.le_refl _) (hB5.alloc sB5 _) hgrow (fun g hg => (hown5.lt g hg).1)
              obtain ⟨A2, c2, rfl⟩ := own_slice hown'
              clear hgrow hown5 hB5 hc3
              go_wp2
              go_roundw
              case rel =>
                exact ⟨tt - 1, s, oo + k, nn - k, cc - k, x + 1, L2, pre ++ [(k : Int)], A2, c2, rfl, (by have := HT.out; simp only [Hid]; omega), by omega, by omega, by go_num, by omega, by omega, by omega, rfl, by omega, HRDN, HSN, HLN', HPN, HRN, (by rw [intCells_append]; exact hown'), hb2⟩
              case measure => first | (simp [intOf]; done) | (simp [intOf]; omega)

end Go.Proofs.Ytbjjpndhfgfedaa
