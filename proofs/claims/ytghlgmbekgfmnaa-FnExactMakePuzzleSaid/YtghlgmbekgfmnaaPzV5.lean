/-
  Contracts: what the model's clues tell of good bites (pzValue, the last kind); pzValue whatever the kind. Conditions: none.
-/
import Derived.Test.YtghlgmbekgfmnaaPzV
namespace Go.Proofs.Ytghlgmbekgfmnaa
open Go.RowKit
set_option linter.unusedVariables false
set_option linter.unusedSimpArgs false

theorem TabAt.bite {w : World} {g : Nat} (h : TabAt w g) {l : List Int} (hl : ChOK l) (h1 : l.length ≤ 4) (h2 : l.getD 0 0 ≤ 5) {x y : Int} (hc : canC l x y = true) {kn : Nat} (hk : keyI (biteL l x y) = kn) : w.cell? ⟨g, kn, none⟩ = some (.int .i64 (grI (biteL l x y) + 1)) := by
  obtain ⟨tbl, ho, ht⟩ := h
  have hk6 : kn < 117649 := by have := (keyI_in (biteL_ok hl hc)).2; omega
  have hv := TabC.bite (H := 4) (W := 5) (by decide) (by decide) ht ((mem_all (by decide) (by decide)).2 ⟨hl, h1, h2⟩) hc
  have hlen : tbl.length = 117649 := by have := ho.1; rw [length_intCells] at this; omega
  rw [hk, Int.toNat_natCast] at hv
  have hcc := ho.cellAt kn (by omega)
  rw [hcc]
  have hk2 : kn < tbl.length := by omega
  simp only [intCells, List.getElem?_map, List.getElem?_eq_getElem hk2, Option.map_some]
  rw [getD_lt hk2] at hv
  rw [hv]
  rfl

set_option maxRecDepth 100000 in
set_option maxHeartbeats 4000000 in
theorem pzValue_5 (a : Int) (A : Option Addr) (n c : Nat) (l : List Int) (g : Nat) (w : World) (hr : Rd w 1 A n (intCells l)) (hl : ChOK l) (h4 : l.length ≤ 4) (h5 : l.getD 0 0 ≤ 5) (ht : TabAt w g) :
    Calls Try.prog 68 #[.int .i64 5, .int .i64 a, .slice A n c, .slice (some ⟨g, 0, none⟩) 117649 117649] w fun e w' => e = .returned (.int .i64 ((gbL l).length : Nat)) ∧ Below w.heap.size w w' := by
  have HL := Lib.hid hl
  have H4 := Lib.hid h4
  have H5 := Lib.hid h5
  have hll := hr.ilen
  have HCM := Lib.hid (cmMoves_any A n c l w hr hl)
  have hM36 := mvL_len hl
  have hML : mv (fun j => l.getD j 0) n = mvL l := by rw [← hll]; exact mv_len hl
  have HML := Lib.hid hML
  have HR := Lib.hid hr
  have HT := Lib.hid ht
  clear hll hl hML hr ht h4 h5
  go_enter Try.func68, Try.ntmps68
  go_wp2_with fail
  refine (HCM.out).mono ?_; rintro e w2 ⟨A2, n2, c2, rfl, h36, hL2, hs2, hb2⟩
  rw [HML.out] at hL2 hs2
  obtain ⟨AM, CM, hac⟩ := hs2
  have HAC := Lib.hid hac
  have HL2 := Lib.hid hL2
  have s2 := hb2.size
  have HT2 := Lib.hid (HT.out.later hb2 (Nat.le_refl _))
  have HR2 := Lib.hid (HR.out.later hb2 (Nat.le_refl _))
  have HB2 := Lib.hid hb2
  clear hac hL2 hb2 HCM
  go_wp2
  go_loopw [9, 18] (fun s i wr => ∃ k j : Nat, k ≤ n2 ∧ j ≤ k ∧ i = .int .i64 k ∧ s = .int .i64 (j : Int) ∧ Hid ((gbK l k).length = j) ∧ Below w2.heap.size w2 wr) (fun _ i _ => n2 - (intOf i).toNat)
  case atStart => exact ⟨0, 0, Nat.zero_le _, Nat.le_refl _, rfl, rfl, rfl, Below.refl _ _⟩
  case round =>
    obtain ⟨k, j, hk, hjk, rfl, rfl, hj, hB⟩ := hrel
    have sB := hB.size
    by_cases hlt : k < n2
    · have hkM : k < (mvL l).length := by rw [HL2.out]; exact hlt
      obtain ⟨bm, rfl, hbm1, hbm⟩ := own_at (own_later HAC.out.top hB (Nat.le_refl _)) (by omega)
      have pm := (own_later HAC.out.top hB (Nat.le_refl _)).cellAt k (by omega)
      rw [ssCells_at hlt] at pm
      have hrowk := own_later (HAC.out.row k hlt) hB (Nat.le_refl _)
      have hpr := prR_at hkM
      have hcan := mvL_can HL.out (List.getElem_mem hkM)
      have hgk := gbK_succ hkM
      have hgb : gbB l (mvL l)[k] = !decide (0 < grI (biteL l ((mvL l)[k]).1 ((mvL l)[k]).2)) := rfl
      rw [hgb] at hgk
      rw [hpr] at pm hrowk
      have hGL : (gbK l (k + 1)).length = (gbK l k).length + (if 0 < grI (biteL l ((mvL l)[k]).1 ((mvL l)[k]).2) then 0 else 1) := by
        rw [hgk, List.length_append]
        by_cases q : 0 < grI (biteL l ((mvL l)[k]).1 ((mvL l)[k]).2) <;> simp [q]
      clear hgk hgb
      generalize ((mvL l)[k]).1 = x at *
      generalize ((mvL l)[k]).2 = y at *
      have h5 := canC_true hcan
      obtain ⟨yn, rfl⟩ : ∃ yn : Nat, y = yn := ⟨y.toNat, by omega⟩
      have HBOK := Lib.hid (biteL_ok HL.out hcan)
      obtain ⟨kn, hkn⟩ : ∃ kn : Nat, keyI (biteL l x yn) = kn := ⟨(keyI (biteL l x yn)).toNat, by have := (keyI_in HBOK.out).1; omega⟩
      obtain ⟨gv, hgv⟩ : ∃ gv : Nat, gr (biteL l x yn) = gv := ⟨_, rfl⟩
      have hgv6 : gv < 37 := by have := gr_le HBOK.out; omega
      have hgi : grI (biteL l x yn) = (gv : Int) := by simp [grI, hgv]
      have htab := HT2.out.later hB (Nat.le_refl _)
      have htc := htab.bite HL.out H4.out H5.out hcan hkn
      have hgt := htab.lt
      rw [hgi] at htc hGL
      have HGL := Lib.hid hGL
      have HBI := Lib.hid (fun wx h => cmBite_any A n c l x yn wx h HL.out h5.1 (by omega))
      have HKC : Hid (∀ (A : Option Addr) (n c : Nat) (wx : World), Rd wx 1 A n (intCells (biteL l x yn)) → Calls Try.prog 95 #[.slice A n c] wx fun e w' => e = .returned (.int .i64 (kn : Int)) ∧ wx = w') := fun A n c wx h => by
        have q := cmKey_any A n c (biteL l x yn) wx h HBOK.out
        rw [hkn] at q
        exact q
      have hkni : (kn : Int) < 117649 := by have := (keyI_in HBOK.out).2; omega
      obtain ⟨bx, e1, hbx1, hbx⟩ := own_at hrowk (by simp)
      rw [e1] at pm hrowk
      have q0 : wr.cell? ⟨bx, 0, none⟩ = some (.int .i64 x) := (hrowk.cellAt 0 (by simp)).trans rfl
      have q1 : wr.cell? ⟨bx, 1, none⟩ = some (.int .i64 (yn : Int)) := (hrowk.cellAt 1 (by simp)).trans rfl
      have pm' : wr.cell? ⟨bm, k, none⟩ = some (.slice (some ⟨bx, 0, none⟩) 2 (CM k)) := pm
      have HRR := Lib.hid (HR2.out.later hB (Nat.le_refl _))
      have HBB := Lib.hid hB
      clear hpr hcan h5 hrowk e1 pm hkn hgv hgi hkM hB hGL htab
      go_wp2
      refine wp_region_held_drew (S := (fun w' => w'.cell? ⟨bx, 0, none⟩ = some (.int .i64 x) ∧ w'.cell? ⟨bx, 1, none⟩ = some (.int .i64 (yn : Int)) ∧ w'.cell? ⟨g, kn, none⟩ = some (.int .i64 ((gv : Int) + 1)))) (by kernel_rfl) ?_ (fun hHeld => ?_)
      · ((try dsimp only); (repeat' apply And.intro); all_goals ((repeat (first | (with_reducible refine cell_drew ?_) | (with_reducible refine cell_drewN _ ?_) | ((with_reducible refine cell_alloc ?_ ?_); · first | omega | (simp; done) | (simp; omega) | assumption) | ((with_reducible refine cell_set ?_ ?_); · first | (intro e; injection e; omega) | (intro e; simp at e; done) | (intro e; simp at e; omega)))); first | assumption | (simp; done)))
      refine reg_on (i := 0) (d := 22) (v := ?rv1) rfl rfl (by kernel_rfl) (by kernel_rfl) (by kernel_rfl) (fun _ _ _ h => h) (by rfl) ?ry1 (by assumption) ?rr1
      case ry1 => (intro wz hSw; (try dsimp only at hSw); go_simp; try with_reducible rfl)
      (try simp only [Act.put, List.setIfInBounds_toArray, List.set_cons_zero, List.set_cons_succ])
      refine reg_on (i := 1) (d := 23) (v := ?rv2) rfl rfl (by kernel_rfl) (by kernel_rfl) (by kernel_rfl) (fun _ _ _ h => h) (by rfl) ?ry2 (by assumption) ?rr2
      case ry2 => (intro wz hSw; (try dsimp only at hSw); go_simp; try with_reducible rfl)
      (try simp only [Act.put, List.setIfInBounds_toArray, List.set_cons_zero, List.set_cons_succ])
      refine reg_on (i := 2) (d := 24) (v := ?rv3) rfl rfl (by kernel_rfl) (by kernel_rfl) (by kernel_rfl) (fun _ _ _ h => h) (by rfl) ?ry3 (by assumption) ?rr3
      case ry3 => (intro wz hSw; (try dsimp only at hSw); go_simp; try with_reducible rfl)
      (try simp only [Act.put, List.setIfInBounds_toArray, List.set_cons_zero, List.set_cons_succ])
      refine reg_on (i := 3) (d := 25) (v := ?rv4) rfl rfl (by kernel_rfl) (by kernel_rfl) (by kernel_rfl) (fun _ _ _ h => h) (by rfl) ?ry4 (by assumption) ?rr4
      case ry4 => (intro wz hSw; (try dsimp only at hSw); go_simp; try with_reducible rfl)
      (try simp only [Act.put, List.setIfInBounds_toArray, List.set_cons_zero, List.set_cons_succ])
      refine reg_on (i := 4) (d := 26) (v := ?rv5) rfl rfl (by kernel_rfl) (by kernel_rfl) (by kernel_rfl) (fun _ _ _ h => h) (by rfl) ?ry5 (by assumption) ?rr5
      case ry5 => (intro wz hSw; (try dsimp only at hSw); go_simp; try with_reducible rfl)
      (try simp only [Act.put, List.setIfInBounds_toArray, List.set_cons_zero, List.set_cons_succ])
      refine reg_on (i := 5) (d := 27) (v := ?rv6) rfl rfl (by kernel_rfl) (by kernel_rfl) (by kernel_rfl) (fun _ _ _ h => h) (by rfl) ?ry6 (by assumption) ?rr6
      case ry6 => (intro wz hSw; (try dsimp only at hSw); go_simp; try with_reducible rfl)
      (try simp only [Act.put, List.setIfInBounds_toArray, List.set_cons_zero, List.set_cons_succ])
      refine reg_on (i := 6) (d := 28) (v := ?rv7) rfl rfl (by kernel_rfl) (by kernel_rfl) (by kernel_rfl) (fun _ _ _ h => h) (by rfl) ?ry7 (by assumption) ?rr7
      case ry7 => (intro wz hSw; (try dsimp only at hSw); go_simp; try with_reducible rfl)
      (try simp only [Act.put, List.setIfInBounds_toArray, List.set_cons_zero, List.set_cons_succ])
      refine reg_on (i := 7) (d := 29) (v := ?rv8) rfl rfl (by kernel_rfl) (by kernel_rfl) (by kernel_rfl) (fun _ _ _ h => h) (by rfl) ?ry8 (by assumption) ?rr8
      case ry8 => (intro wz hSw; (try dsimp only at hSw); go_simp; try with_reducible rfl)
      (try simp only [Act.put, List.setIfInBounds_toArray, List.set_cons_zero, List.set_cons_succ])
      refine wpAnyH_ready (rs := [8]) (by kernel_rfl) (by simp) ?_
      refine AllReadyH.cons rfl (fun K hK => ?_) AllReadyH.nil
      go_simp
      go_at_call 97; refine (HBI.out _ (by exact HRR.out)).mono ?_; rintro e w3 ⟨A3, n3, c3, rfl, o3, hb3⟩; have k0 : w3.cell? ⟨bx, 0, none⟩ = some (.int .i64 x) := (hb3.cell (p := ⟨bx, 0, none⟩) (by exact hbx)).trans (by first | assumption | (go_split_ands; assumption)); have k1 : w3.cell? ⟨bx, 1, none⟩ = some (.int .i64 (yn : Int)) := (hb3.cell (p := ⟨bx, 1, none⟩) (by exact hbx)).trans (by first | assumption | (go_split_ands; assumption)); have k2 : w3.cell? ⟨g, kn, none⟩ = some (.int .i64 ((gv : Int) + 1)) := (hb3.cell (p := ⟨g, kn, none⟩) (by exact hgt)).trans (by first | assumption | (go_split_ands; assumption))
      refine hK.out _ _ ?_ (fun hHeld => ?_)
      · ((try dsimp only); (repeat' apply And.intro); all_goals ((repeat (first | (with_reducible refine cell_drew ?_) | (with_reducible refine cell_drewN _ ?_) | ((with_reducible refine cell_alloc ?_ ?_); · first | omega | (simp; done) | (simp; omega) | assumption) | ((with_reducible refine cell_set ?_ ?_); · first | (intro e; injection e; omega) | (intro e; simp at e; done) | (intro e; simp at e; omega)))); first | assumption | (simp; done)))
      clear hK K
      (try simp only [Act.put, List.setIfInBounds_toArray, List.set_cons_zero, List.set_cons_succ])
      refine wpAnyH_ready (rs := [9]) (by kernel_rfl) (by simp) ?_
      refine AllReadyH.cons rfl (fun K hK => ?_) AllReadyH.nil
      go_simp
      go_at_call 95; refine (HKC.out _ _ _ _ (Rd.of_own o3)).mono ?_; rintro e wx ⟨rfl, rfl⟩
      refine hK.out _ _ ?_ (fun hHeld => ?_)
      · ((try dsimp only); (repeat' apply And.intro); all_goals ((repeat (first | (with_reducible refine cell_drew ?_) | (with_reducible refine cell_drewN _ ?_) | ((with_reducible refine cell_alloc ?_ ?_); · first | omega | (simp; done) | (simp; omega) | assumption) | ((with_reducible refine cell_set ?_ ?_); · first | (intro e; injection e; omega) | (intro e; simp at e; done) | (intro e; simp at e; omega)))); first | assumption | (simp; done)))
      clear hK K
      (try simp only [Act.put, List.setIfInBounds_toArray, List.set_cons_zero, List.set_cons_succ])
      refine reg_on (i := 10) (d := 32) (v := ?rv11) rfl rfl (by kernel_rfl) (by kernel_rfl) (by kernel_rfl) (fun _ _ _ h => h) (by rfl) ?ry11 (by assumption) ?rr11
      case ry11 => (intro wz hSw; (try dsimp only at hSw); go_simp; try with_reducible rfl)
      (try simp only [Act.put, List.setIfInBounds_toArray, List.set_cons_zero, List.set_cons_succ])
      refine reg_on (i := 11) (d := 33) (v := ?rv12) rfl rfl (by kernel_rfl) (by kernel_rfl) (by kernel_rfl) (fun _ _ _ h => h) (by rfl) ?ry12 (by assumption) ?rr12
      case ry12 => (intro wz hSw; (try dsimp only at hSw); go_simp; try with_reducible rfl)
      (try simp only [Act.put, List.setIfInBounds_toArray, List.set_cons_zero, List.set_cons_succ])
      refine reg_on (i := 12) (d := 34) (v := ?rv13) rfl rfl (by kernel_rfl) (by kernel_rfl) (by kernel_rfl) (fun _ _ _ h => h) (by rfl) ?ry13 (by assumption) ?rr13
      case ry13 => (intro wz hSw; (try dsimp only at hSw); go_simp; try with_reducible rfl)
      (try simp only [Act.put, List.setIfInBounds_toArray, List.set_cons_zero, List.set_cons_succ])
      refine wpAnyH_done (by kernel_rfl) ?_ _
      have hb3w : Below wr.heap.size wr w3 := (Below.refl wr.heap.size wr).drew.trans hb3
      have hB3 := HBB.out.trans (hb3w.mono sB)
      clear hb3 o3 k0 k1 k2 htc q0 q1 HBI HKC
      by_cases h0 : gv = 0
      · have hd : ((gv : Int) + 1 == 1) = true := by rw [h0]; rfl
        rw [hd]
        have HJ : Hid ((gbK l (k + 1)).length = j + 1) := by simp only [Hid]; rw [HGL.out, hj.out, if_neg (by omega)]
        go_wp2
        go_roundw
        case rel => exact ⟨k + 1, j + 1, by omega, by omega, by go_num, by go_num, HJ, hB3⟩
        case measure => simp [intOf]; omega
      · have hd : ((gv : Int) + 1 == 1) = false := by simp; omega
        rw [hd]
        have HJ : Hid ((gbK l (k + 1)).length = j) := by simp only [Hid]; rw [HGL.out, hj.out, if_pos (by omega)]; rfl
        go_wp2
        go_roundw
        case rel => exact ⟨k + 1, j, by omega, by omega, by go_num, rfl, HJ, hB3⟩
        case measure => simp [intOf]; omega
    · have hkn : k = n2 := by omega
      have hall : (gbL l).length = j := by rw [← gbK_all (l := l) (k := k) (by rw [HL2.out]; omega)]; exact hj
      have HALL := Lib.hid hall
      have HB3 := Lib.hid (HB2.out.trans (hB.mono s2))
      clear hkn hall hB
      go_wp2
      go_ret
      exact ⟨ret_int (by rw [HALL.out]), HB3.out⟩

/-- what a clue of a kind tells -/
theorem pzValue_any (k a : Int) (A : Option Addr) (n c : Nat) (l : List Int) (g : Nat) (w : World) (hk : 0 ≤ k ∧ k < 6) (ha : 0 ≤ a) (hr : Rd w 1 A n (intCells l)) (hl : ChOK l) (h4 : l.length ≤ 4) (h5 : l.getD 0 0 ≤ 5) (ht : TabAt w g) :
    Calls Try.prog 68 #[.int .i64 k, .int .i64 a, .slice A n c, .slice (some ⟨g, 0, none⟩) 117649 117649] w fun e w' => e = .returned (.int .i64 (tellI k a l)) ∧ Below w.heap.size w w' := by
  rcases (show k = 0 ∨ k = 1 ∨ k = 2 ∨ k = 3 ∨ k = 4 ∨ k = 5 by omega) with rfl | rfl | rfl | rfl | rfl | rfl
  · exact pzValue_0 a A n c l _ _ _ w hr hl
  · obtain ⟨an, rfl⟩ : ∃ an : Nat, a = an := ⟨a.toNat, by omega⟩
    exact pzValue_1 an A n c l _ _ _ w hr hl
  · exact pzValue_23 2 (.inl rfl) a A n c l g w hr hl h4 h5 ht
  · exact pzValue_23 3 (.inr rfl) a A n c l g w hr hl h4 h5 ht
  · exact pzValue_4 a A n c l _ _ _ w hr hl
  · exact pzValue_5 a A n c l g w hr hl h4 h5 ht
end Go.Proofs.Ytghlgmbekgfmnaa
