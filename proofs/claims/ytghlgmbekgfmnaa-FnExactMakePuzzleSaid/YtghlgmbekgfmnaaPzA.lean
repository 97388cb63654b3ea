/-
  Contracts: all hidden chomps that fit some clues, of the model (pzHeaps, pzAll). Conditions: none.
-/
import Derived.Test.YtghlgmbekgfmnaaPzV5
import Derived.Test.YtghlgmbekgfmnaaPzF
import Derived.Test.YtghlgmbekgfmnaaSel
import Derived.Test.YtghlgmbekgfmnaaListS
namespace Go.Proofs.Ytghlgmbekgfmnaa
open Go.RowKit
set_option linter.unusedVariables false
set_option linter.unusedSimpArgs false

set_option maxHeartbeats 1000000 in
theorem pzHeaps_any (w : World) :
    Calls Try.prog 69 #[] w fun e w' => ∃ g, e = .returned (.slice (some ⟨g, 0, none⟩) 117649 117649) ∧ TabAt w' g ∧ Below w.heap.size w w' := by
  have HC := Lib.hid (cmHeaps_any 5 4 w (by decide) (by decide))
  go_enter Try.func69, Try.ntmps69
  go_wp2_with fail
  refine (HC.out).mono ?_; rintro e w1 ⟨g, tbl, rfl, ho, ht, hb⟩
  go_wp2
  go_ret
  exact ⟨g, rfl, ⟨tbl, own_base ho (Nat.zero_le _), ht⟩, hb⟩

set_option maxRecDepth 100000 in
set_option maxHeartbeats 8000000 in
theorem pzAll_any (A : Option Addr) (n c : Nat) (S : List Clu) (w : World) (hS : ∀ q ∈ S, cluB q = true) (hn : n ≤ 1000) (hr : Rd w 3 A n (boxCells S)) :
    Calls Try.prog 73 #[.slice A n c] w fun e w' => ∃ A' n' c', e = .returned (.slice A' n' c') ∧ n' = (solL S).length ∧ OwnSS w' w.heap.size (.slice A' n' c') n' (lsR (solL S)) ∧ Below w.heap.size w w' := by
  obtain ⟨i0, hi, hz0, hz1, hz2⟩ := info_parts ints_info
  have hll : S.length = n := by have := hr.1; rw [length_boxCells] at this; omega
  have HSL := Lib.hid hll
  have HS := Lib.hid hS
  have HR := Lib.hid hr
  have HA := Lib.hid (fun wx => cmAll_any 5 4 wx (by decide) (by decide))
  have HH := Lib.hid (fun wx => pzHeaps_any wx)
  clear hll hS hr
  go_enter Try.func73, Try.ntmps73
  go_wp2_with fail
  refine (HH.out _).mono ?_; rintro e w1 ⟨g, rfl, ht1, hb1⟩
  have HT1 := Lib.hid ht1
  have HB1 := Lib.hid hb1
  have s1 := hb1.size
  clear ht1 hb1
  go_wp2_with fail
  refine (HA.out _).mono ?_; rintro e w2 ⟨A1, m, c1, rfl, hL, hss, hb2⟩
  obtain ⟨AC, CC, hac⟩ := hss
  have HAC := Lib.hid hac
  have HLL := Lib.hid hL
  have HT2 := Lib.hid (HT1.out.later hb2 (Nat.le_refl _))
  have HB2 := Lib.hid (HB1.out.trans (hb2.mono s1))
  have HR2 := Lib.hid (HR.out.later HB2.out (Nat.le_refl _))
  have hm125 : m = 125 := by rw [← hL]; exact chs45_len
  have s2 := hb2.size
  have s02 := HB2.out.size
  have HQ : Hid (∀ k (hk : k < (chs 4 5 []).length), ChOK (chs 4 5 [])[k] ∧ (chs 4 5 [])[k].length ≤ 4 ∧ (chs 4 5 [])[k].getD 0 0 ≤ 5) := fun k hk => (mem_all (H := 4) (W := 5) (by decide) (by decide)).1 (List.getElem_mem hk)
  have HSO : Hid (solL S = (chs 4 5 []).filter (fits S)) := rfl
  clear hac hL hb2 HT1 HB1 HA HH HR
  generalize hCL : chs 4 5 [] = CL at *
  clear hCL
  go_wp2
  go_loopw [3, 13] (fun v i wr => ∃ (k j : Nat) (A' : Option Addr) (c' : Nat), k ≤ m ∧ j ≤ k ∧ i = .int .i64 k ∧ v = .slice A' j c' ∧ Hid ((selI CL [] (fits S) k).length = j) ∧ wr.ownsRow w2.heap.size 39 1 (.slice A' j c') j ((selI CL [] (fits S) k).map fun i => .slice (AC i) (lsR CL i).length (CC i)) ∧ Below w2.heap.size w2 wr) (fun _ i _ => m - (intOf i).toNat)
  case atStart => exact ⟨0, 0, none, 0, Nat.zero_le _, Nat.le_refl _, rfl, rfl, rfl, World.ownsRow_nil _ _ _ _, Below.refl _ _⟩
  case round =>
    obtain ⟨k, j, A', c', hk, hjk, rfl, rfl, hj, hown, hB⟩ := hrel
    have sB := hB.size
    by_cases hlt : k < m
    · have hkl : k < CL.length := by rw [HLL.out]; exact hlt
      have htop := own_later HAC.out.top hB (Nat.le_refl _)
      obtain ⟨bm, rfl, hbm1, hbm⟩ := own_at htop (by omega)
      have pm := htop.cellAt k (by omega)
      rw [ssCells_at hlt] at pm
      have hrow := own_later (HAC.out.row k hlt) hB (Nat.le_refl _)
      have hln : lsR CL k = CL[k] := by simp [lsR, List.getD, List.getElem?_eq_getElem hkl]
      have hgd : CL.getD k [] = CL[k] := by simp [List.getD, List.getElem?_eq_getElem hkl]
      have hq := HQ.out k hkl
      rw [hln] at pm hrow
      have HSY : Hid (fits S CL[k] = true → selI CL [] (fits S) (k + 1) = selI CL [] (fits S) k ++ [k]) := fun h => selI_yes (by rw [hgd]; exact h)
      have HSN : Hid (fits S CL[k] = false → selI CL [] (fits S) (k + 1) = selI CL [] (fits S) k) := fun h => selI_no (by rw [hgd]; exact h)
      have HLN : Hid ((lsR CL k).length = CL[k].length) := by simp only [Hid]; rw [hln]
      generalize CL[k] = l at *
      have HOK := Lib.hid hq
      have HRW := Lib.hid (Rd.of_own hrow)
      have HRR := Lib.hid (HR2.out.later hB (Nat.le_refl _))
      have HTT := Lib.hid (HT2.out.later hB (Nat.le_refl _))
      have HBB := Lib.hid hB
      have HOW := Lib.hid hown
      have pm' : wr.cell? ⟨bm, k, none⟩ = some (.slice (AC k) l.length (CC k)) := pm
      clear hln hgd hq hrow htop pm hown hB
      obtain ⟨wo, rfl⟩ : ∃ wo : World, wo = wr := ⟨wr, rfl⟩
      have hdk : decide ((k : Int) < 125) = true := decide_eq_true (by omega)
      go_wp2
      go_loopw [7, 19] (fun v i wi => ∃ p : Nat, p ≤ n ∧ i = .int .i64 p ∧ v = .bool (fits (S.take p) l) ∧ Below wo.heap.size wo wi) (fun _ i _ => n - (intOf i).toNat)
      case atStart => exact ⟨0, Nat.zero_le _, rfl, by simp [fits], Below.refl _ _⟩
      case round =>
        obtain ⟨p, hp, rfl, rfl, hBi⟩ := hrel
        have sBi := hBi.size
        by_cases hltp : p < n
        · obtain ⟨bq, oq, rfl, hbq, hxp, p1, p2, p3⟩ := (HRR.out.later hBi (Nat.le_refl _)).box hltp
          have HTK := Lib.hid (fits_take (l := l) hxp)
          have hcq := cluB_true (HS.out S[p] (List.getElem_mem hxp))
          generalize S[p] = q at *
          obtain ⟨x, y, z⟩ := q
          simp only at p1 p2 p3 hcq
          have hfb : fitB (x, y, z) l = decide (tellI x y l = z) := rfl
          rw [hfb] at HTK
          have hba : Below wr.heap.size wr (wr.alloc (.cells #[.int .i64 x, .int .i64 y, .int .i64 z] 25)) := (Below.refl _ _).alloc (Nat.le_refl _) _
          have d0 : (wr.alloc (.cells #[.int .i64 x, .int .i64 y, .int .i64 z] 25)).cell? ⟨wr.heap.size, 0, none⟩ = some (.int .i64 x) := by simp [go_sem]
          have d1 : (wr.alloc (.cells #[.int .i64 x, .int .i64 y, .int .i64 z] 25)).cell? ⟨wr.heap.size, 1, none⟩ = some (.int .i64 y) := by simp [go_sem]
          have d2 : (wr.alloc (.cells #[.int .i64 x, .int .i64 y, .int .i64 z] 25)).cell? ⟨wr.heap.size, 2, none⟩ = some (.int .i64 z) := by simp [go_sem]
          have hsz : (wr.alloc (.cells #[.int .i64 x, .int .i64 y, .int .i64 z] 25)).heap.size = wr.heap.size + 1 := by simp
          have hbr := hBi.trans (hba.mono sBi)
          have HBR := Lib.hid hbr
          have HPV : Hid (∀ wx : World, Below wo.heap.size wo wx → Calls Try.prog 68 #[.int .i64 x, .int .i64 y, .slice (AC k) l.length (CC k), .slice (some ⟨g, 0, none⟩) 117649 117649] wx fun e w' => e = .returned (.int .i64 (tellI x y l)) ∧ Below wx.heap.size wx w') := fun wx h => pzValue_any x y _ _ _ l g wx ⟨hcq.1, hcq.2.1⟩ hcq.2.2.1 (HRW.out.later h (Nat.le_refl _)) HOK.out.1 HOK.out.2.1 HOK.out.2.2 (HTT.out.later h (Nat.le_refl _))
          clear hfb hxp hcq hBi hba hbr
          generalize tellI x y l = tv at *
          cases hv : fits (S.take p) l
          · have HV2 : Hid (fits (S.take (p + 1)) l = false) := by simp only [Hid]; rw [HTK.out, hv]; rfl
            go_wp2
            generalize wr.alloc (.cells #[.int .i64 x, .int .i64 y, .int .i64 z] 25) = W1 at *
            refine wp_region_held_drew (S := (fun w' => w'.cell? ⟨wr.heap.size, 0, none⟩ = some (.int .i64 x) ∧ w'.cell? ⟨wr.heap.size, 1, none⟩ = some (.int .i64 y) ∧ w'.cell? ⟨wr.heap.size, 2, none⟩ = some (.int .i64 z))) (by kernel_rfl) ?_ (fun hHeld => ?_)
            · ((try dsimp only); (repeat' apply And.intro); all_goals ((repeat (first | (with_reducible refine cell_drew ?_) | (with_reducible refine cell_drewN _ ?_) | ((with_reducible refine cell_alloc ?_ ?_); · first | omega | (simp; done) | (simp; omega) | assumption) | ((with_reducible refine cell_set ?_ ?_); · first | (intro e; injection e; omega) | (intro e; simp at e; done) | (intro e; simp at e; omega)))); first | assumption | (simp; done)))
            refine reg_on (i := 0) (d := 23) (v := ?rv1) rfl rfl (by kernel_rfl) (by kernel_rfl) (by kernel_rfl) (fun _ _ _ h => h) (by rfl) ?ry1 (by assumption) ?rr1
            case ry1 => (intro wz hSw; (try dsimp only at hSw); go_simp; try with_reducible rfl)
            (try simp only [Act.put, List.setIfInBounds_toArray, List.set_cons_zero, List.set_cons_succ])
            refine reg_on (i := 1) (d := 24) (v := ?rv2) rfl rfl (by kernel_rfl) (by kernel_rfl) (by kernel_rfl) (fun _ _ _ h => h) (by rfl) ?ry2 (by assumption) ?rr2
            case ry2 => (intro wz hSw; (try dsimp only at hSw); go_simp; try with_reducible rfl)
            (try simp only [Act.put, List.setIfInBounds_toArray, List.set_cons_zero, List.set_cons_succ])
            refine reg_off (i := 2) (d := 25) rfl rfl (by kernel_rfl) (by kernel_rfl) (by kernel_rfl) (fun _ _ _ h => h) (by rfl) (by assumption) ?_; (try simp only [Act.put, List.setIfInBounds_toArray, List.set_cons_zero, List.set_cons_succ])
            refine reg_off (i := 3) (d := 26) rfl rfl (by kernel_rfl) (by kernel_rfl) (by kernel_rfl) (fun _ _ _ h => h) (by rfl) (by assumption) ?_; (try simp only [Act.put, List.setIfInBounds_toArray, List.set_cons_zero, List.set_cons_succ])
            refine reg_off (i := 4) (d := 27) rfl rfl (by kernel_rfl) (by kernel_rfl) (by kernel_rfl) (fun _ _ _ h => h) (by rfl) (by assumption) ?_; (try simp only [Act.put, List.setIfInBounds_toArray, List.set_cons_zero, List.set_cons_succ])
            refine reg_off (i := 5) (d := 28) rfl rfl (by kernel_rfl) (by kernel_rfl) (by kernel_rfl) (fun _ _ _ h => h) (by rfl) (by assumption) ?_; (try simp only [Act.put, List.setIfInBounds_toArray, List.set_cons_zero, List.set_cons_succ])
            refine reg_off (i := 6) (d := 29) rfl rfl (by kernel_rfl) (by kernel_rfl) (by kernel_rfl) (fun _ _ _ h => h) (by rfl) (by assumption) ?_; (try simp only [Act.put, List.setIfInBounds_toArray, List.set_cons_zero, List.set_cons_succ])
            refine reg_off (i := 7) (d := 30) rfl rfl (by kernel_rfl) (by kernel_rfl) (by kernel_rfl) (fun _ _ _ h => h) (by rfl) (by assumption) ?_; (try simp only [Act.put, List.setIfInBounds_toArray, List.set_cons_zero, List.set_cons_succ])
            refine reg_off (i := 8) (d := 31) rfl rfl (by kernel_rfl) (by kernel_rfl) (by kernel_rfl) (fun _ _ _ h => h) (by rfl) (by assumption) ?_; (try simp only [Act.put, List.setIfInBounds_toArray, List.set_cons_zero, List.set_cons_succ])
            refine reg_off (i := 9) (d := 32) rfl rfl (by kernel_rfl) (by kernel_rfl) (by kernel_rfl) (fun _ _ _ h => h) (by rfl) (by assumption) ?_; (try simp only [Act.put, List.setIfInBounds_toArray, List.set_cons_zero, List.set_cons_succ])
            refine reg_off (i := 10) (d := 33) rfl rfl (by kernel_rfl) (by kernel_rfl) (by kernel_rfl) (fun _ _ _ h => h) (by rfl) (by assumption) ?_; (try simp only [Act.put, List.setIfInBounds_toArray, List.set_cons_zero, List.set_cons_succ])
            refine reg_off (i := 11) (d := 34) rfl rfl (by kernel_rfl) (by kernel_rfl) (by kernel_rfl) (fun _ _ _ h => h) (by rfl) (by assumption) ?_; (try simp only [Act.put, List.setIfInBounds_toArray, List.set_cons_zero, List.set_cons_succ])
            refine reg_on (i := 12) (d := 35) (v := ?rv13) rfl rfl (by kernel_rfl) (by kernel_rfl) (by kernel_rfl) (fun _ _ _ h => h) (by rfl) ?ry13 (by assumption) ?rr13
            case ry13 => (intro wz hSw; (try dsimp only at hSw); go_simp; try with_reducible rfl)
            (try simp only [Act.put, List.setIfInBounds_toArray, List.set_cons_zero, List.set_cons_succ])
            refine reg_on (i := 13) (d := 7) (v := ?rv14) rfl rfl (by kernel_rfl) (by kernel_rfl) (by kernel_rfl) (fun _ _ _ h => h) (by rfl) ?ry14 (by assumption) ?rr14
            case ry14 => (intro wz hSw; (try dsimp only at hSw); go_simp; try with_reducible rfl)
            (try simp only [Act.put, List.setIfInBounds_toArray, List.set_cons_zero, List.set_cons_succ])
            refine wpAnyH_done (by kernel_rfl) ?_ _
            have HB9 := Lib.hid HBR.out.drew
            clear d0 d1 d2 p1 p2 p3
            go_wp2
            go_roundw
            case rel => exact ⟨p + 1, by omega, by go_num, by rw [HV2.out], HB9.out⟩
            case measure => simp [intOf]; omega
          · have HV2 : Hid (fits (S.take (p + 1)) l = decide (tv = z)) := by simp only [Hid]; rw [HTK.out, hv]; rfl
            go_wp2
            generalize wr.alloc (.cells #[.int .i64 x, .int .i64 y, .int .i64 z] 25) = W1 at *
            refine wp_region_held_drew (S := (fun w' => w'.cell? ⟨wr.heap.size, 0, none⟩ = some (.int .i64 x) ∧ w'.cell? ⟨wr.heap.size, 1, none⟩ = some (.int .i64 y) ∧ w'.cell? ⟨wr.heap.size, 2, none⟩ = some (.int .i64 z))) (by kernel_rfl) ?_ (fun hHeld => ?_)
            · ((try dsimp only); (repeat' apply And.intro); all_goals ((repeat (first | (with_reducible refine cell_drew ?_) | (with_reducible refine cell_drewN _ ?_) | ((with_reducible refine cell_alloc ?_ ?_); · first | omega | (simp; done) | (simp; omega) | assumption) | ((with_reducible refine cell_set ?_ ?_); · first | (intro e; injection e; omega) | (intro e; simp at e; done) | (intro e; simp at e; omega)))); first | assumption | (simp; done)))
            refine reg_on (i := 0) (d := 23) (v := ?rv15) rfl rfl (by kernel_rfl) (by kernel_rfl) (by kernel_rfl) (fun _ _ _ h => h) (by rfl) ?ry15 (by assumption) ?rr15
            case ry15 => (intro wz hSw; (try dsimp only at hSw); go_simp; try with_reducible rfl)
            (try simp only [Act.put, List.setIfInBounds_toArray, List.set_cons_zero, List.set_cons_succ])
            refine reg_on (i := 1) (d := 24) (v := ?rv16) rfl rfl (by kernel_rfl) (by kernel_rfl) (by kernel_rfl) (fun _ _ _ h => h) (by rfl) ?ry16 (by assumption) ?rr16
            case ry16 => (intro wz hSw; (try dsimp only at hSw); go_simp; try with_reducible rfl)
            (try simp only [Act.put, List.setIfInBounds_toArray, List.set_cons_zero, List.set_cons_succ])
            refine reg_on (i := 2) (d := 25) (v := ?rv17) rfl rfl (by kernel_rfl) (by kernel_rfl) (by kernel_rfl) (fun _ _ _ h => h) (by rfl) ?ry17 (by assumption) ?rr17
            case ry17 => (intro wz hSw; (try dsimp only at hSw); go_simp; try with_reducible rfl)
            (try simp only [Act.put, List.setIfInBounds_toArray, List.set_cons_zero, List.set_cons_succ])
            refine reg_on (i := 3) (d := 26) (v := ?rv18) rfl rfl (by kernel_rfl) (by kernel_rfl) (by kernel_rfl) (fun _ _ _ h => h) (by rfl) ?ry18 (by assumption) ?rr18
            case ry18 => (intro wz hSw; (try dsimp only at hSw); go_simp; try with_reducible rfl)
            (try simp only [Act.put, List.setIfInBounds_toArray, List.set_cons_zero, List.set_cons_succ])
            refine reg_on (i := 4) (d := 27) (v := ?rv19) rfl rfl (by kernel_rfl) (by kernel_rfl) (by kernel_rfl) (fun _ _ _ h => h) (by rfl) ?ry19 (by assumption) ?rr19
            case ry19 => (intro wz hSw; (try dsimp only at hSw); go_simp; try with_reducible rfl)
            (try simp only [Act.put, List.setIfInBounds_toArray, List.set_cons_zero, List.set_cons_succ])
            refine reg_on (i := 5) (d := 28) (v := ?rv20) rfl rfl (by kernel_rfl) (by kernel_rfl) (by kernel_rfl) (fun _ _ _ h => h) (by rfl) ?ry20 (by assumption) ?rr20
            case ry20 => (intro wz hSw; (try dsimp only at hSw); go_simp; try with_reducible rfl)
            (try simp only [Act.put, List.setIfInBounds_toArray, List.set_cons_zero, List.set_cons_succ])
            refine reg_on (i := 6) (d := 29) (v := ?rv21) rfl rfl (by kernel_rfl) (by kernel_rfl) (by kernel_rfl) (fun _ _ _ h => h) (by rfl) ?ry21 (by assumption) ?rr21
            case ry21 => (intro wz hSw; (try dsimp only at hSw); go_simp; try with_reducible rfl)
            (try simp only [Act.put, List.setIfInBounds_toArray, List.set_cons_zero, List.set_cons_succ])
            refine reg_on (i := 7) (d := 30) (v := ?rv22) rfl rfl (by kernel_rfl) (by kernel_rfl) (by kernel_rfl) (fun _ _ _ h => h) (by rfl) ?ry22 (by assumption) ?rr22
            case ry22 => (intro wz hSw; (try dsimp only at hSw); go_simp; try with_reducible rfl)
            (try simp only [Act.put, List.setIfInBounds_toArray, List.set_cons_zero, List.set_cons_succ])
            refine reg_on (i := 9) (d := 32) (v := ?rv23) rfl rfl (by kernel_rfl) (by kernel_rfl) (by kernel_rfl) (fun _ _ _ h => h) (by rfl) ?ry23 (by assumption) ?rr23
            case ry23 => (intro wz hSw; (try dsimp only at hSw); go_simp; try with_reducible rfl)
            (try simp only [Act.put, List.setIfInBounds_toArray, List.set_cons_zero, List.set_cons_succ])
            refine reg_on (i := 10) (d := 33) (v := ?rv24) rfl rfl (by kernel_rfl) (by kernel_rfl) (by kernel_rfl) (fun _ _ _ h => h) (by rfl) ?ry24 (by assumption) ?rr24
            case ry24 => (intro wz hSw; (try dsimp only at hSw); go_simp; try with_reducible rfl)
            (try simp only [Act.put, List.setIfInBounds_toArray, List.set_cons_zero, List.set_cons_succ])
            refine wpAnyH_ready (rs := [8]) (by kernel_rfl) (by simp) ?_
            refine AllReadyH.cons rfl (fun K hK => ?_) AllReadyH.nil
            go_simp
            go_at_call 68; refine (HPV.out _ (by first | exact HBR.out.drew | exact HBR.out)).mono ?_; rintro e w3 ⟨rfl, hb3⟩; have k0 : w3.cell? ⟨wr.heap.size, 0, none⟩ = some (.int .i64 x) := (hb3.cell (p := ⟨wr.heap.size, 0, none⟩) (by first | (simp; omega) | omega)).trans (by first | assumption | (go_split_ands; assumption)); have k1 : w3.cell? ⟨wr.heap.size, 1, none⟩ = some (.int .i64 y) := (hb3.cell (p := ⟨wr.heap.size, 1, none⟩) (by first | (simp; omega) | omega)).trans (by first | assumption | (go_split_ands; assumption)); have k2 : w3.cell? ⟨wr.heap.size, 2, none⟩ = some (.int .i64 z) := (hb3.cell (p := ⟨wr.heap.size, 2, none⟩) (by first | (simp; omega) | omega)).trans (by first | assumption | (go_split_ands; assumption))
            refine hK.out _ _ ?_ (fun hHeld => ?_)
            · ((try dsimp only); (repeat' apply And.intro); all_goals ((repeat (first | (with_reducible refine cell_drew ?_) | (with_reducible refine cell_drewN _ ?_) | ((with_reducible refine cell_alloc ?_ ?_); · first | omega | (simp; done) | (simp; omega) | assumption) | ((with_reducible refine cell_set ?_ ?_); · first | (intro e; injection e; omega) | (intro e; simp at e; done) | (intro e; simp at e; omega)))); first | assumption | (simp; done)))
            clear hK K
            (try simp only [Act.put, List.setIfInBounds_toArray, List.set_cons_zero, List.set_cons_succ])
            refine reg_on (i := 11) (d := 34) (v := ?rv26) rfl rfl (by kernel_rfl) (by kernel_rfl) (by kernel_rfl) (fun _ _ _ h => h) (by rfl) ?ry26 (by assumption) ?rr26
            case ry26 => (intro wz hSw; (try dsimp only at hSw); go_simp; try with_reducible rfl)
            (try simp only [Act.put, List.setIfInBounds_toArray, List.set_cons_zero, List.set_cons_succ])
            refine reg_on (i := 12) (d := 35) (v := ?rv27) rfl rfl (by kernel_rfl) (by kernel_rfl) (by kernel_rfl) (fun _ _ _ h => h) (by rfl) ?ry27 (by assumption) ?rr27
            case ry27 => (intro wz hSw; (try dsimp only at hSw); go_simp; try with_reducible rfl)
            (try simp only [Act.put, List.setIfInBounds_toArray, List.set_cons_zero, List.set_cons_succ])
            refine reg_on (i := 13) (d := 7) (v := ?rv28) rfl rfl (by kernel_rfl) (by kernel_rfl) (by kernel_rfl) (fun _ _ _ h => h) (by rfl) ?ry28 (by assumption) ?rr28
            case ry28 => (intro wz hSw; (try dsimp only at hSw); go_simp; try with_reducible rfl)
            (try simp only [Act.put, List.setIfInBounds_toArray, List.set_cons_zero, List.set_cons_succ])
            refine wpAnyH_done (by kernel_rfl) ?_ _
            have HB9 := Lib.hid (HBR.out.drew.trans (hb3.mono HBR.out.drew.size))
            clear d0 d1 d2 hb3 k0 k1 k2 p1 p2 p3
            go_wp2
            go_roundw
            case rel => exact ⟨p + 1, by omega, by go_num, by rw [HV2.out]; rfl, HB9.out⟩
            case measure => simp [intOf]; omega
        · have htk : S.take p = S := List.take_of_length_le (by rw [HSL.out]; omega)
          have own3 := own_later HOW.out hBi (Nat.le_refl _)
          have hB3 := HBB.out.trans (hBi.mono sB)
          have s3 := hB3.size
          rw [htk]
          clear htk hBi
          cases hv : fits S l
          · have HSI := Lib.hid (HSN.out hv)
            have P := Lib.hid (show Hid ((selI CL [] (fits S) (k + 1)).length = j) ∧ wr.ownsRow w2.heap.size 39 1 (.slice A' j c') j ((selI CL [] (fits S) (k + 1)).map fun i => .slice (AC i) (lsR CL i).length (CC i)) ∧ Below w2.heap.size w2 wr from ⟨by simp only [Hid]; rw [HSI.out]; exact hj.out, by rw [HSI.out]; exact own3, hB3⟩)
            clear own3 hB3
            go_wp2
            go_roundw
            case rel => exact ⟨k + 1, j, A', c', by omega, by omega, by go_num, rfl, P.out⟩
            case measure => simp [intOf]; omega
          · have HSI := Lib.hid (HSY.out hv)
            have hc3 : j + 1 ≤ maxLen := by simp only [maxLen]; omega
            have HO3 := Lib.hid own3
            have HB3 := Lib.hid hB3
            have HOA := Lib.hid (own_alloc own3 (.cells #[.slice (AC k) l.length (CC k)] 39))
            clear own3 hB3
            go_wp2_with (at_builtin; refine wpList_append_own _ rfl (.tmp 38) (.tmp 40) 45 rfl w2.heap.size 39 i0 (.slice none 0 0) 1 24 Try.underlying45 hi hz0 hz1 hz2 rfl (by decide) _ _ _ rfl HOA.out ⟨wr.heap.size, 0, none⟩ 1 1 [.slice (AC k) l.length (CC k)] rfl rfl (new1 _ _ _) (by intro u hu; simp at hu; subst hu; rfl) hc3 (by omega) (by have := HB3.out.size; simp; omega) ?_)
            intro v' w4 hown' hgrow _
            obtain ⟨A4, c4, rfl⟩ := own_slice hown'
            have hb4 : Below w2.heap.size w2 w4 := gb_new (Nat.le_refl _) (HB3.out.alloc HB3.out.size (.cells #[.slice (AC k) l.length (CC k)] 39)) hgrow (fun g hg => (HO3.out.lt g hg).1)
            have P := Lib.hid (show Hid ((selI CL [] (fits S) (k + 1)).length = j + 1) ∧ w4.ownsRow w2.heap.size 39 1 (.slice A4 (j + 1) c4) (j + 1) ((selI CL [] (fits S) (k + 1)).map fun i => .slice (AC i) (lsR CL i).length (CC i)) ∧ Below w2.heap.size w2 w4 from ⟨by simp only [Hid]; rw [HSI.out, List.length_append, hj.out]; rfl, by
              rw [HSI.out, List.map_append]
              simp only [List.map_cons, List.map_nil, HLN.out]
              exact hown', hb4⟩)
            clear hown' hgrow hb4 HO3 HB3 HOA hc3
            go_wp2
            go_roundw
            case rel => exact ⟨k + 1, j + 1, A4, c4, by omega, by omega, by go_num, rfl, P.out⟩
            case measure => simp [intOf]; omega
    · have hkn : k = m := by omega
      have hlen2 : (solL S).length = j := by
        have h := sel_length (d := []) (p := fits S) HLL.out
        rw [← hkn, hj.out] at h
        rw [HSO.out]
        exact h.symm
      have HSS : Hid (OwnSS wr w.heap.size (.slice A' j c') j (lsR (solL S))) := by
        have h := HAC.out.sel (I := selI CL [] (fits S) k) (fun i hi => by have := selI_lt hi; omega) (selI_nodup _ _ _ _) hj.out hown hB (Nat.le_refl _) (B0 := w.heap.size) (by omega) (by omega)
        refine h.congr fun i hi => ?_
        rw [HSO.out]
        have e := lsR_sel (M := CL) (p := fits S) (i := i) (by rw [← HSO.out]; omega)
        rw [HLL.out, ← hkn] at e
        exact e
      have HB3 := Lib.hid (HB2.out.trans (hB.mono s02))
      have HLEN := Lib.hid hlen2
      clear hkn hlen2 hown hB
      go_wp2
      go_ret
      exact ⟨A', j, c', rfl, HLEN.out.symm, HSS.out, HB3.out⟩
end Go.Proofs.Ytghlgmbekgfmnaa
