/-
  Contracts: GoodChomps of the model; FirstGoodChomp of both.
-/
import Derived.Test.YtclkddehaomdjaaGoodC
import Derived.Test.YtclkddehaomdjaaSel
namespace Go.Proofs.Ytclkddehaomdjaa
open Go.RowKit
set_option linter.unusedVariables false

theorem mvL_len {l : List Int} (hl : ChOK l) : (mvL l).length ≤ 36 := by
  have h := grL_len35 hl
  have e : (grL l).length = (mvL l).length := by simp only [grL, List.length_map]
  omega

set_option maxRecDepth 100000 in
set_option maxHeartbeats 4000000 in
theorem sGoodChomps_any (A : Option Addr) (n c : Nat) (l : List Int) (w : World) (hr : Rd w 1 A n (intCells l)) (hn : n ≤ 1000000000) :
    Calls Try.prog 38 #[.slice A n c] w fun e w' => ∃ A' n' c', e = .returned (.tuple #[.slice A' n' c', .bool (chB l)]) ∧ (n' = (goR l).length ∧ n' ≤ 1000000) ∧ OwnSS w' w.heap.size (.slice A' n' c') n' (prR (goR l)) ∧ Below w.heap.size w w' := by
  have HG := Lib.hid (fun wx h => cmGood_any A n c l wx h hn)
  cases hb : chB l
  · rw [goR_no hb]
    have HB := Lib.hid hb
    clear hb
    go_enter Try.func38, Try.ntmps38
    go_wp2_with fail
    refine (HG.out _ hr).mono ?_; rintro e w1 ⟨rfl, hb1⟩
    rw [HB.out]
    go_wp2
    go_ret2
    exact ⟨none, 0, 0, rfl, ⟨rfl, by omega⟩, OwnSS.nil _ _ _, hb1⟩
  · obtain ⟨i0, hi, hz0, hz1, hz2⟩ := info_parts ints_info
    have hl := chB_true.1 hb
    have HL := Lib.hid hl
    have HV := Lib.hid (goR_yes hb)
    rw [HV.out]
    have HB := Lib.hid hb
    have hll := hr.ilen
    have n6 : n ≤ 6 := by have := hl.2.1; omega
    have n1 : 1 ≤ n := by have := hl.1; omega
    obtain ⟨b, o, rfl, hbl, hx, p0⟩ := hr.num n1
    obtain ⟨W, hW⟩ : ∃ W : Nat, l[0] = W := ⟨(l[0]).toNat, by have := hl.ge0 0; rw [getD_lt hx] at this; omega⟩
    have hW6 : W ≤ 6 := by have := hl.le6 0; rw [getD_lt hx] at this; omega
    have hWl : l.getD 0 0 ≤ W := by rw [getD_lt hx, hW]; omega
    rw [hW, Nat.add_zero] at p0
    have HTB : Hid (∀ tbl, TabC tbl (chs n W []) (chs n W []).length → ∀ x y, canC l x y = true → tbl.getD (keyI (biteL l x y)).toNat 0 = (gr (biteL l x y) : Nat) + 1) := fun tbl h x y hc => TabC.bite n6 hW6 h ((mem_all n6 hW6).2 ⟨hl, by omega, hWl⟩) hc
    have HCH := Lib.hid (fun wx => cmHeaps_any W n wx hW6 n6)
    have HCM := Lib.hid (fun wx h => cmMoves_any (some ⟨b, o, none⟩) n c l wx h hl)
    have hM36 := mvL_len hl
    have hML : mv (fun j => l.getD j 0) n = mvL l := by rw [← hll]; exact mv_len hl
    have HML := Lib.hid hML
    clear hW hx hWl hll hl hML hb
    go_enter Try.func38, Try.ntmps38
    go_wp2_with fail
    refine (HG.out _ hr).mono ?_; rintro e w0 ⟨rfl, hb0⟩
    rw [HB.out]
    have hr0 := hr.later hb0 (Nat.le_refl _)
    have s0 := hb0.size
    have HB0 := Lib.hid hb0
    have p00 : w0.cell? ⟨b, o, none⟩ = some (.int .i64 (W : Int)) := (hb0.cell (p := ⟨b, o, none⟩) hbl).trans p0
    clear hb0
    go_wp2_with fail
    refine (HCH.out _).mono ?_; rintro e w1 ⟨g, tbl, rfl, ho, htab, hb1⟩
    have hr1 := hr0.later hb1 (Nat.le_refl _)
    have s1 := hb1.size
    have HB1 := Lib.hid (HB0.out.trans (hb1.mono s0))
    have HO := Lib.hid ho
    have HTT := Lib.hid (HTB.out tbl htab)
    have HR1 := Lib.hid hr1
    clear ho htab hb1 hr1
    go_wp2_with fail
    refine (HCM.out _ HR1.out).mono ?_; rintro e w2 ⟨A2, n2, c2, rfl, h36, hL2, hs2, hb2⟩
    rw [HML.out] at hL2 hs2
    obtain ⟨AM, CM, hac⟩ := hs2
    have HAC := Lib.hid hac
    have HL2 := Lib.hid hL2
    have s2 := hb2.size
    have HO2 := Lib.hid (own_later HO.out hb2 (Nat.le_refl _))
    have HR2 := Lib.hid (HR1.out.later hb2 (Nat.le_refl _))
    have HB2 := Lib.hid (HB1.out.trans (hb2.mono HB1.out.size))
    have s02 := HB2.out.size
    clear hac hL2 hb2 HO HR1 HB1 HCM HCH HTB
    go_wp2
    go_loopw [4, 20] (fun v i wr => ∃ (k j : Nat) (A' : Option Addr) (c' : Nat), k ≤ n2 ∧ j ≤ k ∧ i = .int .i64 k ∧ v = .slice A' j c' ∧ Hid ((selI (mvL l) (0, 0) (gbB l) k).length = j) ∧ wr.ownsRow w2.heap.size 22 1 (.slice A' j c') j ((selI (mvL l) (0, 0) (gbB l) k).map fun i => .slice (AM i) (prR (mvL l) i).length (CM i)) ∧ Below w2.heap.size w2 wr) (fun _ i _ => n2 - (intOf i).toNat)
    case atStart => exact ⟨0, 0, none, 0, Nat.zero_le _, Nat.le_refl _, rfl, rfl, rfl, World.ownsRow_nil _ _ _ _, Below.refl _ _⟩
    case round =>
      obtain ⟨k, j, A', c', hk, hjk, rfl, rfl, hj, hown, hB⟩ := hrel
      have sB := hB.size
      by_cases hlt : k < n2
      · have hkM : k < (mvL l).length := by rw [HL2.out]; exact hlt
        obtain ⟨bm, rfl, hbm1, hbm⟩ := own_at (own_later HAC.out.top hB (Nat.le_refl _)) (by omega)
        have pm := (own_later HAC.out.top hB (Nat.le_refl _)).cellAt k (by omega)
        rw [ssCells_at hlt] at pm
        have hrowk := own_later (HAC.out.row k hlt) hB (Nat.le_refl _)
        have hpr := prR_at hkM
        have hcan := mvL_can HL.out (List.getElem_mem hkM)
        have hgb : gbB l ((mvL l).getD k (0, 0)) = !decide (0 < grI (biteL l ((mvL l)[k]).1 ((mvL l)[k]).2)) := by
          rw [show (mvL l).getD k (0, 0) = (mvL l)[k] by simp [List.getD, hkM]]; rfl
        have HPL : Hid ((prR (mvL l) k).length = 2) := by simp only [Hid, hpr]; rfl
        rw [hpr] at pm hrowk
        generalize ((mvL l)[k]).1 = x at *
        generalize ((mvL l)[k]).2 = y at *
        have h5 := canC_true hcan
        obtain ⟨yn, rfl⟩ : ∃ yn : Nat, y = yn := ⟨y.toNat, by omega⟩
        have HBOK := Lib.hid (biteL_ok HL.out hcan)
        obtain ⟨kn, hkn⟩ : ∃ kn : Nat, keyI (biteL l x yn) = kn := ⟨(keyI (biteL l x yn)).toNat, by have := (keyI_in HBOK.out).1; omega⟩
        have hkn6 : kn < 117649 := by have := (keyI_in HBOK.out).2; omega
        obtain ⟨gv, hgv⟩ : ∃ gv : Nat, gr (biteL l x yn) = gv := ⟨_, rfl⟩
        have hgv6 : gv < 37 := by have := gr_le HBOK.out; omega
        have htv : tbl.getD kn 0 = (gv : Int) + 1 := by
          have h := HTT.out x yn hcan
          rw [hkn, hgv] at h
          simpa using h
        have hgi : grI (biteL l x yn) = (gv : Int) := by simp [grI, hgv]
        rw [hgi] at hgb
        have HGB := Lib.hid hgb
        have HBI := Lib.hid (fun wx h => cmBite_any (some ⟨b, o, none⟩) n c l x yn wx h HL.out h5.1 (by omega))
        have HKC : Hid (∀ (A : Option Addr) (n c : Nat) (wx : World), Rd wx 1 A n (intCells (biteL l x yn)) → Calls Try.prog 69 #[.slice A n c] wx fun e w' => e = .returned (.int .i64 (kn : Int)) ∧ wx = w') := fun A n c wx h => by
          have q := cmKey_any A n c (biteL l x yn) wx h HBOK.out
          rw [hkn] at q
          exact q
        obtain ⟨bx, e1, hbx1, hbx⟩ := own_at hrowk (by simp)
        rw [e1] at pm hrowk
        have q0 : wr.cell? ⟨bx, 0, none⟩ = some (.int .i64 x) := (hrowk.cellAt 0 (by simp)).trans rfl
        have q1 : wr.cell? ⟨bx, 1, none⟩ = some (.int .i64 (yn : Int)) := (hrowk.cellAt 1 (by simp)).trans rfl
        have pm' : wr.cell? ⟨bm, k, none⟩ = some (.slice (some ⟨bx, 0, none⟩) 2 (CM k)) := pm
        have HAK : Hid (AM k = some ⟨bx, 0, none⟩) := e1
        have hkni : (kn : Int) < 117649 := by omega
        have hown2 := own_later HO2.out hB (Nat.le_refl _)
        have htc := hown2.cellAt kn (by omega)
        have hlen : tbl.length = 117649 := by have := HO2.out.1; rw [length_intCells] at this; omega
        rw [show (intCells tbl)[kn]? = some (.int .i64 ((gv : Int) + 1)) by
          have hk2 : kn < tbl.length := by rw [hlen]; exact hkn6
          simp only [intCells, List.getElem?_map, List.getElem?_eq_getElem hk2, Option.map_some]
          rw [← htv, getD_lt hk2]] at htc
        have hgt := (hown2.lt g rfl).2
        have HRR := Lib.hid (HR2.out.later hB (Nat.le_refl _))
        have HOW := Lib.hid hown
        have HBB := Lib.hid hB
        clear hpr hcan h5 hrowk e1 pm hown2 hlen htv hkn hgv hgi hkM hgb hown hB
        go_wp2
        refine wp_region_held_drew (S := (fun w' => w'.cell? ⟨bx, 0, none⟩ = some (.int .i64 x) ∧ w'.cell? ⟨bx, 1, none⟩ = some (.int .i64 (yn : Int)) ∧ w'.cell? ⟨g, kn, none⟩ = some (.int .i64 ((gv : Int) + 1)))) (by kernel_rfl) ?_ (fun hHeld => ?_)
        · ((try dsimp only); (repeat' apply And.intro); all_goals ((repeat (first | (with_reducible refine cell_drew ?_) | (with_reducible refine cell_drewN _ ?_) | ((with_reducible refine cell_alloc ?_ ?_); · first | omega | (simp; done) | (simp; omega) | assumption) | ((with_reducible refine cell_set ?_ ?_); · first | (intro e; injection e; omega) | (intro e; simp at e; done) | (intro e; simp at e; omega)))); first | assumption | (simp; done)))
        refine reg_on (i := 0) (d := 24) (v := ?rv1) rfl rfl (by kernel_rfl) (by kernel_rfl) (by kernel_rfl) (fun _ _ _ h => h) (by rfl) ?ry1 (by assumption) ?rr1
        case ry1 => (intro wz hSw; (try dsimp only at hSw); go_simp; try with_reducible rfl)
        (try simp only [Act.put, List.setIfInBounds_toArray, List.set_cons_zero, List.set_cons_succ])
        refine reg_on (i := 1) (d := 25) (v := ?rv2) rfl rfl (by kernel_rfl) (by kernel_rfl) (by kernel_rfl) (fun _ _ _ h => h) (by rfl) ?ry2 (by assumption) ?rr2
        case ry2 => (intro wz hSw; (try dsimp only at hSw); go_simp; try with_reducible rfl)
        (try simp only [Act.put, List.setIfInBounds_toArray, List.set_cons_zero, List.set_cons_succ])
        refine reg_on (i := 2) (d := 26) (v := ?rv3) rfl rfl (by kernel_rfl) (by kernel_rfl) (by kernel_rfl) (fun _ _ _ h => h) (by rfl) ?ry3 (by assumption) ?rr3
        case ry3 => (intro wz hSw; (try dsimp only at hSw); go_simp; try with_reducible rfl)
        (try simp only [Act.put, List.setIfInBounds_toArray, List.set_cons_zero, List.set_cons_succ])
        refine reg_on (i := 3) (d := 27) (v := ?rv4) rfl rfl (by kernel_rfl) (by kernel_rfl) (by kernel_rfl) (fun _ _ _ h => h) (by rfl) ?ry4 (by assumption) ?rr4
        case ry4 => (intro wz hSw; (try dsimp only at hSw); go_simp; try with_reducible rfl)
        (try simp only [Act.put, List.setIfInBounds_toArray, List.set_cons_zero, List.set_cons_succ])
        refine reg_on (i := 4) (d := 28) (v := ?rv5) rfl rfl (by kernel_rfl) (by kernel_rfl) (by kernel_rfl) (fun _ _ _ h => h) (by rfl) ?ry5 (by assumption) ?rr5
        case ry5 => (intro wz hSw; (try dsimp only at hSw); go_simp; try with_reducible rfl)
        (try simp only [Act.put, List.setIfInBounds_toArray, List.set_cons_zero, List.set_cons_succ])
        refine reg_on (i := 5) (d := 29) (v := ?rv6) rfl rfl (by kernel_rfl) (by kernel_rfl) (by kernel_rfl) (fun _ _ _ h => h) (by rfl) ?ry6 (by assumption) ?rr6
        case ry6 => (intro wz hSw; (try dsimp only at hSw); go_simp; try with_reducible rfl)
        (try simp only [Act.put, List.setIfInBounds_toArray, List.set_cons_zero, List.set_cons_succ])
        refine reg_on (i := 6) (d := 30) (v := ?rv7) rfl rfl (by kernel_rfl) (by kernel_rfl) (by kernel_rfl) (fun _ _ _ h => h) (by rfl) ?ry7 (by assumption) ?rr7
        case ry7 => (intro wz hSw; (try dsimp only at hSw); go_simp; try with_reducible rfl)
        (try simp only [Act.put, List.setIfInBounds_toArray, List.set_cons_zero, List.set_cons_succ])
        refine reg_on (i := 7) (d := 31) (v := ?rv8) rfl rfl (by kernel_rfl) (by kernel_rfl) (by kernel_rfl) (fun _ _ _ h => h) (by rfl) ?ry8 (by assumption) ?rr8
        case ry8 => (intro wz hSw; (try dsimp only at hSw); go_simp; try with_reducible rfl)
        (try simp only [Act.put, List.setIfInBounds_toArray, List.set_cons_zero, List.set_cons_succ])
        refine wpAnyH_ready (rs := [8]) (by kernel_rfl) (by simp) ?_
        refine AllReadyH.cons rfl (fun K hK => ?_) AllReadyH.nil
        go_simp
        go_at_call 56; refine (HBI.out _ (by exact HRR.out)).mono ?_; rintro e w3 ⟨A3, n3, c3, rfl, o3, hb3⟩; have k0 : w3.cell? ⟨bx, 0, none⟩ = some (.int .i64 x) := (hb3.cell (p := ⟨bx, 0, none⟩) (by exact hbx)).trans (by first | assumption | (go_split_ands; assumption)); have k1 : w3.cell? ⟨bx, 1, none⟩ = some (.int .i64 (yn : Int)) := (hb3.cell (p := ⟨bx, 1, none⟩) (by exact hbx)).trans (by first | assumption | (go_split_ands; assumption)); have k2 : w3.cell? ⟨g, kn, none⟩ = some (.int .i64 ((gv : Int) + 1)) := (hb3.cell (p := ⟨g, kn, none⟩) (by exact hgt)).trans (by first | assumption | (go_split_ands; assumption))
        refine hK.out _ _ ?_ (fun hHeld => ?_)
        · ((try dsimp only); (repeat' apply And.intro); all_goals ((repeat (first | (with_reducible refine cell_drew ?_) | (with_reducible refine cell_drewN _ ?_) | ((with_reducible refine cell_alloc ?_ ?_); · first | omega | (simp; done) | (simp; omega) | assumption) | ((with_reducible refine cell_set ?_ ?_); · first | (intro e; injection e; omega) | (intro e; simp at e; done) | (intro e; simp at e; omega)))); first | assumption | (simp; done)))
        clear hK K
        (try simp only [Act.put, List.setIfInBounds_toArray, List.set_cons_zero, List.set_cons_succ])
        refine wpAnyH_ready (rs := [9]) (by kernel_rfl) (by simp) ?_
        refine AllReadyH.cons rfl (fun K hK => ?_) AllReadyH.nil
        go_simp
        go_at_call 69; refine (HKC.out _ _ _ _ (Rd.of_own o3)).mono ?_; rintro e wx ⟨rfl, rfl⟩
        refine hK.out _ _ ?_ (fun hHeld => ?_)
        · ((try dsimp only); (repeat' apply And.intro); all_goals ((repeat (first | (with_reducible refine cell_drew ?_) | (with_reducible refine cell_drewN _ ?_) | ((with_reducible refine cell_alloc ?_ ?_); · first | omega | (simp; done) | (simp; omega) | assumption) | ((with_reducible refine cell_set ?_ ?_); · first | (intro e; injection e; omega) | (intro e; simp at e; done) | (intro e; simp at e; omega)))); first | assumption | (simp; done)))
        clear hK K
        (try simp only [Act.put, List.setIfInBounds_toArray, List.set_cons_zero, List.set_cons_succ])
        refine reg_on (i := 10) (d := 34) (v := ?rv11) rfl rfl (by kernel_rfl) (by kernel_rfl) (by kernel_rfl) (fun _ _ _ h => h) (by rfl) ?ry11 (by assumption) ?rr11
        case ry11 => (intro wz hSw; (try dsimp only at hSw); go_simp; try with_reducible rfl)
        (try simp only [Act.put, List.setIfInBounds_toArray, List.set_cons_zero, List.set_cons_succ])
        refine reg_on (i := 11) (d := 35) (v := ?rv12) rfl rfl (by kernel_rfl) (by kernel_rfl) (by kernel_rfl) (fun _ _ _ h => h) (by rfl) ?ry12 (by assumption) ?rr12
        case ry12 => (intro wz hSw; (try dsimp only at hSw); go_simp; try with_reducible rfl)
        (try simp only [Act.put, List.setIfInBounds_toArray, List.set_cons_zero, List.set_cons_succ])
        refine reg_on (i := 12) (d := 36) (v := ?rv13) rfl rfl (by kernel_rfl) (by kernel_rfl) (by kernel_rfl) (fun _ _ _ h => h) (by rfl) ?ry13 (by assumption) ?rr13
        case ry13 => (intro wz hSw; (try dsimp only at hSw); go_simp; try with_reducible rfl)
        (try simp only [Act.put, List.setIfInBounds_toArray, List.set_cons_zero, List.set_cons_succ])
        refine wpAnyH_done (by kernel_rfl) ?_ _
        have hb3w : Below wr.heap.size wr w3 := (Below.refl wr.heap.size wr).drew.trans hb3
        have own3 := own_later HOW.out hb3w (Nat.le_refl _)
        have hB3 := HBB.out.trans (hb3w.mono sB)
        clear hb3 o3 k0 k1 k2 htc q0 q1 HBI HKC
        by_cases h0 : gv = 0
        · have hd : ((gv : Int) + 1 == 1) = true := by rw [h0]; rfl
          rw [hd]
          have HSI : Hid (selI (mvL l) (0, 0) (gbB l) (k + 1) = selI (mvL l) (0, 0) (gbB l) k ++ [k]) := selI_yes (by rw [HGB.out, h0]; rfl)
          have hc3 : j + 1 ≤ maxLen := by simp only [maxLen]; omega
          have HO3 := Lib.hid own3
          have HB3 := Lib.hid hB3
          have HOA := Lib.hid (own_alloc own3 (.cells #[.slice (some ⟨bx, 0, none⟩) 2 (CM k)] 22))
          clear own3 hB3 hb3w
          go_wp2_with (at_builtin; refine wpList_append_own _ rfl (.tmp 37) (.tmp 39) 34 rfl w2.heap.size 22 i0 (.slice none 0 0) 1 24 Try.underlying34 hi hz0 hz1 hz2 rfl (by decide) _ _ _ rfl HOA.out ⟨w3.heap.size, 0, none⟩ 1 1 [.slice (some ⟨bx, 0, none⟩) 2 (CM k)] rfl rfl (new1 _ _ _) (by intro u hu; simp at hu; subst hu; rfl) hc3 (by omega) (by have := HB3.out.size; simp; omega) ?_)
          intro v' w4 hown' hgrow _
          obtain ⟨A4, c4, rfl⟩ := own_slice hown'
          have hb4 : Below w2.heap.size w2 w4 := gb_new (Nat.le_refl _) (HB3.out.alloc HB3.out.size (.cells #[.slice (some ⟨bx, 0, none⟩) 2 (CM k)] 22)) hgrow (fun g hg => (HO3.out.lt g hg).1)
          have P := Lib.hid (show Hid ((selI (mvL l) (0, 0) (gbB l) (k + 1)).length = j + 1) ∧ w4.ownsRow w2.heap.size 22 1 (.slice A4 (j + 1) c4) (j + 1) ((selI (mvL l) (0, 0) (gbB l) (k + 1)).map fun i => .slice (AM i) (prR (mvL l) i).length (CM i)) ∧ Below w2.heap.size w2 w4 from ⟨by simp only [Hid]; rw [HSI.out, List.length_append, hj.out]; rfl, by
            rw [HSI.out, List.map_append]
            simp only [List.map_cons, List.map_nil, HPL.out, HAK.out]
            exact hown', hb4⟩)
          clear hown' hgrow hb4 HO3 HB3 HOA hc3
          go_wp2
          go_roundw
          case rel => exact ⟨k + 1, j + 1, A4, c4, by omega, by omega, by go_num, rfl, P.out⟩
          case measure => simp [intOf]; omega
        · have hd : ((gv : Int) + 1 == 1) = false := by simp; omega
          rw [hd]
          have HSI : Hid (selI (mvL l) (0, 0) (gbB l) (k + 1) = selI (mvL l) (0, 0) (gbB l) k) := selI_no (by rw [HGB.out]; simp; omega)
          have P := Lib.hid (show Hid ((selI (mvL l) (0, 0) (gbB l) (k + 1)).length = j) ∧ w3.ownsRow w2.heap.size 22 1 (.slice A' j c') j ((selI (mvL l) (0, 0) (gbB l) (k + 1)).map fun i => .slice (AM i) (prR (mvL l) i).length (CM i)) ∧ Below w2.heap.size w2 w3 from ⟨by simp only [Hid]; rw [HSI.out]; exact hj.out, by rw [HSI.out]; exact own3, hB3⟩)
          clear own3 hB3 hb3w
          go_wp2
          go_roundw
          case rel => exact ⟨k + 1, j, A', c', by omega, by omega, by go_num, rfl, P.out⟩
          case measure => simp [intOf]; omega
      · have hkn : k = n2 := by omega
        have hlen : (gbL l).length = j := by
          have h := sel_length (d := (0, 0)) (p := gbB l) HL2.out
          rw [← hkn, hj.out] at h
          exact h.symm
        have HSS : Hid (OwnSS wr w.heap.size (.slice A' j c') j (prR (gbL l))) := by
          have h := HAC.out.sel (I := selI (mvL l) (0, 0) (gbB l) k) (fun i hi => by have := selI_lt hi; omega) (selI_nodup _ _ _ _) hj.out hown hB (Nat.le_refl _) (B0 := w.heap.size) (by omega) (by omega)
          refine h.congr fun i hi => ?_
          have e := prR_sel (M := mvL l) (p := gbB l) (i := i) (by have := hlen; unfold gbL at this; omega)
          rw [HL2.out, ← hkn] at e
          exact e
        have HB3 := Lib.hid (HB2.out.trans (hB.mono s02))
        have HLEN := Lib.hid hlen
        clear hkn hlen hown hB
        go_wp2
        go_ret2
        exact ⟨A', j, c', rfl, ⟨HLEN.out.symm, by omega⟩, HSS.out, HB3.out⟩

/-- what FirstGoodChomp returns -/
def fgR (l : List Int) : Int × Int × Bool := match goR l with | [] => (0, 0, false) | p :: _ => (p.1, p.2, true)

set_option maxRecDepth 100000 in
set_option maxHeartbeats 2000000 in
theorem firstGood_any (A : Option Addr) (n c : Nat) (l : List Int) (w : World) (hr : Rd w 1 A n (intCells l)) (hn : n ≤ 1000000000) :
    Calls Try.prog 41 #[.slice A n c] w fun e w' => e = .returned (.tuple #[.int .i64 (fgR l).1, .int .i64 (fgR l).2.1, .bool (fgR l).2.2]) ∧ Below w.heap.size w w' := by
  have HC := Lib.hid (fun wx h => goodChomps_any A n c l wx h hn)
  cases hb : chB l
  · have HV : Hid (fgR l = (0, 0, false)) := by simp [Hid, fgR, goR_no hb]
    rw [HV.out]
    have HB := Lib.hid hb
    clear hb
    go_enter Try.func41, Try.ntmps41
    go_wp2_with fail
    refine (HC.out _ hr).mono ?_; rintro e w1 ⟨A1, n1, c1, rfl, ⟨hn1, hn2⟩, ho, hb1⟩
    rw [HB.out]
    have HB1 := Lib.hid hb1
    clear ho hb1 HC
    go_wp2
    go_ret3
    exact ⟨rfl, HB1.out⟩
  · have HB := Lib.hid hb
    cases hg : goR l with
    | nil =>
      have HV : Hid (fgR l = (0, 0, false)) := by simp [Hid, fgR, hg]
      rw [HV.out]
      have HL : Hid ((goR l).length = 0) := by simp [Hid, hg]
      clear hb hg
      go_enter Try.func41, Try.ntmps41
      go_wp2_with fail
      refine (HC.out _ hr).mono ?_; rintro e w1 ⟨A1, n1, c1, rfl, ⟨hn1, hn2⟩, ho, hb1⟩
      rw [HB.out]
      have hn0 : n1 = 0 := hn1.trans HL.out
      subst hn0
      have HB1 := Lib.hid hb1
      clear ho hb1 HC hn1
      go_wp2
      go_ret3
      exact ⟨rfl, HB1.out⟩
    | cons p r =>
      have HV : Hid (fgR l = (p.1, p.2, true)) := by simp [Hid, fgR, hg]
      rw [HV.out]
      have HL : Hid (1 ≤ (goR l).length) := by simp [Hid, hg]
      have HR0 : Hid (prR (goR l) 0 = [p.1, p.2]) := by simp [Hid, prR, hg]
      obtain ⟨x, y⟩ := p
      clear hb hg
      go_enter Try.func41, Try.ntmps41
      go_wp2_with fail
      refine (HC.out _ hr).mono ?_; rintro e w1 ⟨A1, n1, c1, rfl, ⟨hn1, hn2⟩, ho, hb1⟩
      rw [HB.out]
      have h1 : 0 < n1 := by have := HL.out; omega
      obtain ⟨b, o, rfl, hbl, a, cc, pc, rr⟩ := ho.rd.row h1
      rw [HR0.out] at pc rr
      obtain ⟨b2, o2, rfl, hbl2, hc2⟩ := rr.2 (by simp)
      have q0 : w1.cell? ⟨b2, o2, none⟩ = some (.int .i64 x) := hc2 0 _ rfl
      have q1 : w1.cell? ⟨b2, o2 + 1, none⟩ = some (.int .i64 y) := hc2 1 _ rfl
      have pc' : w1.cell? ⟨b, o, none⟩ = some (.slice (some ⟨b2, o2, none⟩) 2 cc) := pc
      have hnz : ((n1 : Int) == 0) = false := by simp; omega
      have HB1 := Lib.hid hb1
      clear ho hb1 HC hn1 pc rr hc2
      go_wp2
      refine wp_region_held_drew (S := (fun w' => w'.cell? ⟨b, o, none⟩ = some (.slice (some ⟨b2, o2, none⟩) 2 cc) ∧ w'.cell? ⟨b2, o2, none⟩ = some (.int .i64 x) ∧ w'.cell? ⟨b2, o2 + 1, none⟩ = some (.int .i64 y))) (by kernel_rfl) ?_ (fun hHeld => ?_)
      · ((try dsimp only); (repeat' apply And.intro); all_goals ((repeat (first | (with_reducible refine cell_drew ?_) | (with_reducible refine cell_drewN _ ?_) | ((with_reducible refine cell_alloc ?_ ?_); · first | omega | (simp; done) | (simp; omega) | assumption) | ((with_reducible refine cell_set ?_ ?_); · first | (intro e; injection e; omega) | (intro e; simp at e; done) | (intro e; simp at e; omega)))); first | assumption | (simp; done)))
      refine reg_on (i := 0) (d := 19) (v := ?rv14) rfl rfl (by kernel_rfl) (by kernel_rfl) (by kernel_rfl) (fun _ _ _ h => h) (by rfl) ?ry14 (by assumption) ?rr14
      case ry14 => (intro wz hSw; (try dsimp only at hSw); go_simp; try with_reducible rfl)
      (try simp only [Act.put, List.setIfInBounds_toArray, List.set_cons_zero, List.set_cons_succ])
      refine reg_on (i := 1) (d := 20) (v := ?rv15) rfl rfl (by kernel_rfl) (by kernel_rfl) (by kernel_rfl) (fun _ _ _ h => h) (by rfl) ?ry15 (by assumption) ?rr15
      case ry15 => (intro wz hSw; (try dsimp only at hSw); go_simp; try with_reducible rfl)
      (try simp only [Act.put, List.setIfInBounds_toArray, List.set_cons_zero, List.set_cons_succ])
      refine reg_on (i := 2) (d := 21) (v := ?rv16) rfl rfl (by kernel_rfl) (by kernel_rfl) (by kernel_rfl) (fun _ _ _ h => h) (by rfl) ?ry16 (by assumption) ?rr16
      case ry16 => (intro wz hSw; (try dsimp only at hSw); go_simp; try with_reducible rfl)
      (try simp only [Act.put, List.setIfInBounds_toArray, List.set_cons_zero, List.set_cons_succ])
      refine reg_on (i := 3) (d := 22) (v := ?rv17) rfl rfl (by kernel_rfl) (by kernel_rfl) (by kernel_rfl) (fun _ _ _ h => h) (by rfl) ?ry17 (by assumption) ?rr17
      case ry17 => (intro wz hSw; (try dsimp only at hSw); go_simp; try with_reducible rfl)
      (try simp only [Act.put, List.setIfInBounds_toArray, List.set_cons_zero, List.set_cons_succ])
      refine reg_on (i := 4) (d := 23) (v := ?rv18) rfl rfl (by kernel_rfl) (by kernel_rfl) (by kernel_rfl) (fun _ _ _ h => h) (by rfl) ?ry18 (by assumption) ?rr18
      case ry18 => (intro wz hSw; (try dsimp only at hSw); go_simp; try with_reducible rfl)
      (try simp only [Act.put, List.setIfInBounds_toArray, List.set_cons_zero, List.set_cons_succ])
      refine reg_on (i := 5) (d := 24) (v := ?rv19) rfl rfl (by kernel_rfl) (by kernel_rfl) (by kernel_rfl) (fun _ _ _ h => h) (by rfl) ?ry19 (by assumption) ?rr19
      case ry19 => (intro wz hSw; (try dsimp only at hSw); go_simp; try with_reducible rfl)
      (try simp only [Act.put, List.setIfInBounds_toArray, List.set_cons_zero, List.set_cons_succ])
      refine reg_on (i := 6) (d := 25) (v := ?rv20) rfl rfl (by kernel_rfl) (by kernel_rfl) (by kernel_rfl) (fun _ _ _ h => h) (by rfl) ?ry20 (by assumption) ?rr20
      case ry20 => (intro wz hSw; (try dsimp only at hSw); go_simp; try with_reducible rfl)
      (try simp only [Act.put, List.setIfInBounds_toArray, List.set_cons_zero, List.set_cons_succ])
      refine reg_on (i := 7) (d := 26) (v := ?rv21) rfl rfl (by kernel_rfl) (by kernel_rfl) (by kernel_rfl) (fun _ _ _ h => h) (by rfl) ?ry21 (by assumption) ?rr21
      case ry21 => (intro wz hSw; (try dsimp only at hSw); go_simp; try with_reducible rfl)
      (try simp only [Act.put, List.setIfInBounds_toArray, List.set_cons_zero, List.set_cons_succ])
      refine reg_on (i := 8) (d := 27) (v := ?rv22) rfl rfl (by kernel_rfl) (by kernel_rfl) (by kernel_rfl) (fun _ _ _ h => h) (by rfl) ?ry22 (by assumption) ?rr22
      case ry22 => (intro wz hSw; (try dsimp only at hSw); go_simp; try with_reducible rfl)
      (try simp only [Act.put, List.setIfInBounds_toArray, List.set_cons_zero, List.set_cons_succ])
      refine reg_on (i := 9) (d := 28) (v := ?rv23) rfl rfl (by kernel_rfl) (by kernel_rfl) (by kernel_rfl) (fun _ _ _ h => h) (by rfl) ?ry23 (by assumption) ?rr23
      case ry23 => (intro wz hSw; (try dsimp only at hSw); go_simp; try with_reducible rfl)
      (try simp only [Act.put, List.setIfInBounds_toArray, List.set_cons_zero, List.set_cons_succ])
      refine reg_on (i := 10) (d := 2) (v := ?rv24) rfl rfl (by kernel_rfl) (by kernel_rfl) (by kernel_rfl) (fun _ _ _ h => h) (by rfl) ?ry24 (by assumption) ?rr24
      case ry24 => (intro wz hSw; (try dsimp only at hSw); go_simp; try with_reducible rfl)
      (try simp only [Act.put, List.setIfInBounds_toArray, List.set_cons_zero, List.set_cons_succ])
      refine reg_on (i := 11) (d := 3) (v := ?rv25) rfl rfl (by kernel_rfl) (by kernel_rfl) (by kernel_rfl) (fun _ _ _ h => h) (by rfl) ?ry25 (by assumption) ?rr25
      case ry25 => (intro wz hSw; (try dsimp only at hSw); go_simp; try with_reducible rfl)
      (try simp only [Act.put, List.setIfInBounds_toArray, List.set_cons_zero, List.set_cons_succ])
      refine reg_on (i := 12) (d := 4) (v := ?rv26) rfl rfl (by kernel_rfl) (by kernel_rfl) (by kernel_rfl) (fun _ _ _ h => h) (by rfl) ?ry26 (by assumption) ?rr26
      case ry26 => (intro wz hSw; (try dsimp only at hSw); go_simp; try with_reducible rfl)
      (try simp only [Act.put, List.setIfInBounds_toArray, List.set_cons_zero, List.set_cons_succ])
      refine wpAnyH_done (by kernel_rfl) ?_ _
      have hB3 : Below w.heap.size w w1.drew := HB1.out.drew
      go_wp2
      go_ret3
      exact ⟨rfl, hB3⟩

set_option maxRecDepth 100000 in
set_option maxHeartbeats 2000000 in
theorem sFirstGood_any (A : Option Addr) (n c : Nat) (l : List Int) (w : World) (hr : Rd w 1 A n (intCells l)) (hn : n ≤ 1000000000) :
    Calls Try.prog 40 #[.slice A n c] w fun e w' => e = .returned (.tuple #[.int .i64 (fgR l).1, .int .i64 (fgR l).2.1, .bool (fgR l).2.2]) ∧ Below w.heap.size w w' := by
  have HC := Lib.hid (fun wx h => sGoodChomps_any A n c l wx h hn)
  cases hb : chB l
  · have HV : Hid (fgR l = (0, 0, false)) := by simp [Hid, fgR, goR_no hb]
    rw [HV.out]
    have HB := Lib.hid hb
    clear hb
    go_enter Try.func40, Try.ntmps40
    go_wp2_with fail
    refine (HC.out _ hr).mono ?_; rintro e w1 ⟨A1, n1, c1, rfl, ⟨hn1, hn2⟩, ho, hb1⟩
    rw [HB.out]
    have HB1 := Lib.hid hb1
    clear ho hb1 HC
    go_wp2
    go_ret3
    exact ⟨rfl, HB1.out⟩
  · have HB := Lib.hid hb
    cases hg : goR l with
    | nil =>
      have HV : Hid (fgR l = (0, 0, false)) := by simp [Hid, fgR, hg]
      rw [HV.out]
      have HL : Hid ((goR l).length = 0) := by simp [Hid, hg]
      clear hb hg
      go_enter Try.func40, Try.ntmps40
      go_wp2_with fail
      refine (HC.out _ hr).mono ?_; rintro e w1 ⟨A1, n1, c1, rfl, ⟨hn1, hn2⟩, ho, hb1⟩
      rw [HB.out]
      have hn0 : n1 = 0 := hn1.trans HL.out
      subst hn0
      have HB1 := Lib.hid hb1
      clear ho hb1 HC hn1
      go_wp2
      go_ret3
      exact ⟨rfl, HB1.out⟩
    | cons p r =>
      have HV : Hid (fgR l = (p.1, p.2, true)) := by simp [Hid, fgR, hg]
      rw [HV.out]
      have HL : Hid (1 ≤ (goR l).length) := by simp [Hid, hg]
      have HR0 : Hid (prR (goR l) 0 = [p.1, p.2]) := by simp [Hid, prR, hg]
      obtain ⟨x, y⟩ := p
      clear hb hg
      go_enter Try.func40, Try.ntmps40
      go_wp2_with fail
      refine (HC.out _ hr).mono ?_; rintro e w1 ⟨A1, n1, c1, rfl, ⟨hn1, hn2⟩, ho, hb1⟩
      rw [HB.out]
      have h1 : 0 < n1 := by have := HL.out; omega
      obtain ⟨b, o, rfl, hbl, a, cc, pc, rr⟩ := ho.rd.row h1
      rw [HR0.out] at pc rr
      obtain ⟨b2, o2, rfl, hbl2, hc2⟩ := rr.2 (by simp)
      have q0 : w1.cell? ⟨b2, o2, none⟩ = some (.int .i64 x) := hc2 0 _ rfl
      have q1 : w1.cell? ⟨b2, o2 + 1, none⟩ = some (.int .i64 y) := hc2 1 _ rfl
      have pc' : w1.cell? ⟨b, o, none⟩ = some (.slice (some ⟨b2, o2, none⟩) 2 cc) := pc
      have hnz : ((n1 : Int) == 0) = false := by simp; omega
      have HB1 := Lib.hid hb1
      clear ho hb1 HC hn1 pc rr hc2
      go_wp2
      refine wp_region_held_drew (S := (fun w' => w'.cell? ⟨b, o, none⟩ = some (.slice (some ⟨b2, o2, none⟩) 2 cc) ∧ w'.cell? ⟨b2, o2, none⟩ = some (.int .i64 x) ∧ w'.cell? ⟨b2, o2 + 1, none⟩ = some (.int .i64 y))) (by kernel_rfl) ?_ (fun hHeld => ?_)
      · ((try dsimp only); (repeat' apply And.intro); all_goals ((repeat (first | (with_reducible refine cell_drew ?_) | (with_reducible refine cell_drewN _ ?_) | ((with_reducible refine cell_alloc ?_ ?_); · first | omega | (simp; done) | (simp; omega) | assumption) | ((with_reducible refine cell_set ?_ ?_); · first | (intro e; injection e; omega) | (intro e; simp at e; done) | (intro e; simp at e; omega)))); first | assumption | (simp; done)))
      refine reg_on (i := 0) (d := 19) (v := ?rv27) rfl rfl (by kernel_rfl) (by kernel_rfl) (by kernel_rfl) (fun _ _ _ h => h) (by rfl) ?ry27 (by assumption) ?rr27
      case ry27 => (intro wz hSw; (try dsimp only at hSw); go_simp; try with_reducible rfl)
      (try simp only [Act.put, List.setIfInBounds_toArray, List.set_cons_zero, List.set_cons_succ])
      refine reg_on (i := 1) (d := 20) (v := ?rv28) rfl rfl (by kernel_rfl) (by kernel_rfl) (by kernel_rfl) (fun _ _ _ h => h) (by rfl) ?ry28 (by assumption) ?rr28
      case ry28 => (intro wz hSw; (try dsimp only at hSw); go_simp; try with_reducible rfl)
      (try simp only [Act.put, List.setIfInBounds_toArray, List.set_cons_zero, List.set_cons_succ])
      refine reg_on (i := 2) (d := 21) (v := ?rv29) rfl rfl (by kernel_rfl) (by kernel_rfl) (by kernel_rfl) (fun _ _ _ h => h) (by rfl) ?ry29 (by assumption) ?rr29
      case ry29 => (intro wz hSw; (try dsimp only at hSw); go_simp; try with_reducible rfl)
      (try simp only [Act.put, List.setIfInBounds_toArray, List.set_cons_zero, List.set_cons_succ])
      refine reg_on (i := 3) (d := 22) (v := ?rv30) rfl rfl (by kernel_rfl) (by kernel_rfl) (by kernel_rfl) (fun _ _ _ h => h) (by rfl) ?ry30 (by assumption) ?rr30
      case ry30 => (intro wz hSw; (try dsimp only at hSw); go_simp; try with_reducible rfl)
      (try simp only [Act.put, List.setIfInBounds_toArray, List.set_cons_zero, List.set_cons_succ])
      refine reg_on (i := 4) (d := 23) (v := ?rv31) rfl rfl (by kernel_rfl) (by kernel_rfl) (by kernel_rfl) (fun _ _ _ h => h) (by rfl) ?ry31 (by assumption) ?rr31
      case ry31 => (intro wz hSw; (try dsimp only at hSw); go_simp; try with_reducible rfl)
      (try simp only [Act.put, List.setIfInBounds_toArray, List.set_cons_zero, List.set_cons_succ])
      refine reg_on (i := 5) (d := 24) (v := ?rv32) rfl rfl (by kernel_rfl) (by kernel_rfl) (by kernel_rfl) (fun _ _ _ h => h) (by rfl) ?ry32 (by assumption) ?rr32
      case ry32 => (intro wz hSw; (try dsimp only at hSw); go_simp; try with_reducible rfl)
      (try simp only [Act.put, List.setIfInBounds_toArray, List.set_cons_zero, List.set_cons_succ])
      refine reg_on (i := 6) (d := 25) (v := ?rv33) rfl rfl (by kernel_rfl) (by kernel_rfl) (by kernel_rfl) (fun _ _ _ h => h) (by rfl) ?ry33 (by assumption) ?rr33
      case ry33 => (intro wz hSw; (try dsimp only at hSw); go_simp; try with_reducible rfl)
      (try simp only [Act.put, List.setIfInBounds_toArray, List.set_cons_zero, List.set_cons_succ])
      refine reg_on (i := 7) (d := 26) (v := ?rv34) rfl rfl (by kernel_rfl) (by kernel_rfl) (by kernel_rfl) (fun _ _ _ h => h) (by rfl) ?ry34 (by assumption) ?rr34
      case ry34 => (intro wz hSw; (try dsimp only at hSw); go_simp; try with_reducible rfl)
      (try simp only [Act.put, List.setIfInBounds_toArray, List.set_cons_zero, List.set_cons_succ])
      refine reg_on (i := 8) (d := 27) (v := ?rv35) rfl rfl (by kernel_rfl) (by kernel_rfl) (by kernel_rfl) (fun _ _ _ h => h) (by rfl) ?ry35 (by assumption) ?rr35
      case ry35 => (intro wz hSw; (try dsimp only at hSw); go_simp; try with_reducible rfl)
      (try simp only [Act.put, List.setIfInBounds_toArray, List.set_cons_zero, List.set_cons_succ])
      refine reg_on (i := 9) (d := 28) (v := ?rv36) rfl rfl (by kernel_rfl) (by kernel_rfl) (by kernel_rfl) (fun _ _ _ h => h) (by rfl) ?ry36 (by assumption) ?rr36
      case ry36 => (intro wz hSw; (try dsimp only at hSw); go_simp; try with_reducible rfl)
      (try simp only [Act.put, List.setIfInBounds_toArray, List.set_cons_zero, List.set_cons_succ])
      refine reg_on (i := 10) (d := 2) (v := ?rv37) rfl rfl (by kernel_rfl) (by kernel_rfl) (by kernel_rfl) (fun _ _ _ h => h) (by rfl) ?ry37 (by assumption) ?rr37
      case ry37 => (intro wz hSw; (try dsimp only at hSw); go_simp; try with_reducible rfl)
      (try simp only [Act.put, List.setIfInBounds_toArray, List.set_cons_zero, List.set_cons_succ])
      refine reg_on (i := 11) (d := 3) (v := ?rv38) rfl rfl (by kernel_rfl) (by kernel_rfl) (by kernel_rfl) (fun _ _ _ h => h) (by rfl) ?ry38 (by assumption) ?rr38
      case ry38 => (intro wz hSw; (try dsimp only at hSw); go_simp; try with_reducible rfl)
      (try simp only [Act.put, List.setIfInBounds_toArray, List.set_cons_zero, List.set_cons_succ])
      refine reg_on (i := 12) (d := 4) (v := ?rv39) rfl rfl (by kernel_rfl) (by kernel_rfl) (by kernel_rfl) (fun _ _ _ h => h) (by rfl) ?ry39 (by assumption) ?rr39
      case ry39 => (intro wz hSw; (try dsimp only at hSw); go_simp; try with_reducible rfl)
      (try simp only [Act.put, List.setIfInBounds_toArray, List.set_cons_zero, List.set_cons_succ])
      refine wpAnyH_done (by kernel_rfl) ?_ _
      have hB3 : Below w.heap.size w w1.drew := HB1.out.drew
      go_wp2
      go_ret3
      exact ⟨rfl, hB3⟩

end Go.Proofs.Ytclkddehaomdjaa
