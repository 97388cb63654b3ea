/-
  Contract: GreedyTake of the model. Conditions: none.
-/
import Derived.Test.YtkijcpbjjbhnhaaTkS
namespace Go.Proofs.Ytkijcpbjjbhnhaa
open Go.RowKit
set_option linter.unusedVariables false
set_option linter.unusedSimpArgs false

/-- what both have in the end, if the one who is to take is the one of k -/
def gkK (k : Nat) (h0 h1 : Int) (p : Int × Int) : Int × Int := if k % 2 = 0 then (h0 + p.1, h1 + p.2) else (h0 + p.2, h1 + p.1)
theorem gkP_sub {d i j : Nat} {l : List Int} (hd : j - i = d + 1) (hj : j ≤ l.length) : gkP (d + 1) (subL l i j) = if l.getD i 0 < l.getD (j - 1) 0 then (l.getD (j - 1) 0 + (gkP d (subL l i (j - 1))).2, (gkP d (subL l i (j - 1))).1) else (l.getD i 0 + (gkP d (subL l (i + 1) j)).2, (gkP d (subL l (i + 1) j)).1) := by
  simp only [gkP]
  rw [subL_at (by omega) hj, subL_at (by omega) hj, subL_tail, subL_last (by omega) hj]
  rw [Nat.add_zero, show i + d = j - 1 by omega]

set_option maxRecDepth 100000 in
set_option maxHeartbeats 8000000 in
theorem sGreedyTake_any (A : Option Addr) (n c : Nat) (L : List Int) (w : World) (hr : Rd w 1 A n (intCells L)) (hn : n ≤ 4000000000) (hc : n ≤ c) (hc2 : c ≤ 4000000000) :
    Calls Try.prog 35 #[.slice A n c] w fun e w' => e = .returned (.tuple #[.int .i64 (gkA L), .int .i64 (gkZ L), .bool (wtB L)]) ∧ Below w.heap.size w w' := by
  cases h : wtB L
  · rw [show gkA L = 0 by simp [gkA, h], show gkZ L = 0 by simp [gkZ, h]]
    go_enter Try.func35, Try.ntmps35
    go_wp2_with fail
    refine (skGood_any _ _ _ L _ hr hn).mono ?_; rintro e w1 ⟨rfl, rfl⟩
    rw [h]
    go_wp2
    go_ret3
    exact ⟨rfl, Below.refl _ _⟩
  · obtain ⟨h1, h2, h3⟩ := wtB_true h
    have hll := hr.ilen
    have h4 : ∀ z ∈ L, 0 ≤ z ∧ z ≤ 1000 := fun z hz => by have := h3 z hz; omega
    have HA : Hid (gkA L = (gkP n L).1) := by simp [Hid, gkA, h, hll]
    have HZ : Hid (gkZ L = (gkP n L).2) := by simp [Hid, gkZ, h, hll]
    have HLL := Lib.hid hll
    have H4 := Lib.hid h4
    have hs := sumW_bound h4
    have hg := gkP_in n L hll h4
    rw [hll] at hs
    have n12 : n ≤ 12 := by omega
    have HS0 : Hid (subL L 0 n = L) := by simp only [Hid]; rw [← hll]; exact subL_all L
    have HP := Lib.hid (fun d i j hd hj => gkP_sub (d := d) (i := i) (j := j) (l := L) hd hj)
    have HGE := Lib.hid (fun d i j (hd : j - i = d) (hj : j ≤ n) => gkP_in d (subL L i j) (by rw [subL_len (by omega)]; exact hd) (subL_mem h4))
    have hT1 : 0 ≤ (gkP n L).1 ∧ (gkP n L).1 ≤ 20000 := by omega
    have hT2 : 0 ≤ (gkP n L).2 ∧ (gkP n L).2 ≤ 20000 := by omega
    rw [HA.out, HZ.out]
    clear HA HZ h1 h2 h3 hll h4 hs hg
    have HPP : Hid (gkP n L = ((gkP n L).1, (gkP n L).2)) := rfl
    generalize (gkP n L).1 = T1 at *
    generalize (gkP n L).2 = T2 at *
    have HIN : Hid ((w.alloc (.cells #[.int .i64 0, .int .i64 0] 3)).cell? ⟨w.heap.size, 0, none⟩ = some (.int .i64 0) ∧ (w.alloc (.cells #[.int .i64 0, .int .i64 0] 3)).cell? ⟨w.heap.size, 1, none⟩ = some (.int .i64 0) ∧ (w.alloc (.cells #[.int .i64 0, .int .i64 0] 3)).frozen? ⟨w.heap.size, 0, none⟩ = false ∧ (w.alloc (.cells #[.int .i64 0, .int .i64 0] 3)).frozen? ⟨w.heap.size, 1, none⟩ = false) := by
      refine ⟨?_, ?_, ?_, ?_⟩ <;> simp [go_sem]
    have HB0 : Hid (Below w.heap.size w (w.alloc (.cells #[.int .i64 0, .int .i64 0] 3)) ∧ w.heap.size < (w.alloc (.cells #[.int .i64 0, .int .i64 0] 3)).heap.size) := ⟨by (repeat (first | (with_reducible exact Below.refl _ _) | (with_reducible assumption) | (with_reducible refine Below.drew ?_) | ((with_reducible refine balloc ?_ _ ?_); · (first | (simp; done) | (simp; omega) | omega)) | ((with_reducible refine bset ?_ _ ?_); · (first | (simp; done) | (simp; omega) | omega)) | (with_reducible refine bdrewN _ ?_) | ((with_reducible refine bcall ?_ (by assumption) ?_); · (first | (simp; done) | (simp; omega) | omega)))), by simp⟩
    go_enter Try.func35, Try.ntmps35
    go_wp2_with fail
    refine (skGood_any _ _ _ L _ hr hn).mono ?_; rintro e w1 ⟨rfl, rfl⟩
    rw [h]
    go_wp2
    go_loopw [6, 7, 8] (fun x y z wr => ∃ (i j k : Nat) (h0 h1 : Int), x = .int .i64 (i : Int) ∧ y = .int .i64 (j : Int) ∧ z = .int .i64 (k : Int) ∧ i ≤ j ∧ j ≤ n ∧ k ≤ 12 - (j - i) ∧ wr.cell? ⟨w.heap.size, 0, none⟩ = some (.int .i64 h0) ∧ wr.cell? ⟨w.heap.size, 1, none⟩ = some (.int .i64 h1) ∧ wr.frozen? ⟨w.heap.size, 0, none⟩ = false ∧ wr.frozen? ⟨w.heap.size, 1, none⟩ = false ∧ w.heap.size < wr.heap.size ∧ Below w.heap.size w wr ∧ Hid (0 ≤ h0 ∧ 0 ≤ h1 ∧ gkK k h0 h1 (gkP (j - i) (subL L i j)) = (T1, T2))) (fun x y _ _ => (intOf y).toNat - (intOf x).toNat)
    case atStart => exact ⟨0, n, 0, 0, 0, rfl, rfl, rfl, by omega, by omega, by omega, HIN.out.1, HIN.out.2.1, HIN.out.2.2.1, HIN.out.2.2.2, HB0.out.2, HB0.out.1, by omega, by omega, by rw [Nat.sub_zero, HS0.out, HPP.out]; simp [gkK]⟩
    case round =>
      obtain ⟨i, j, k, h0, h1, rfl, rfl, rfl, hij, hj, hk, c0, c1, f0, f1, hwl, hB, hT⟩ := hrel
      by_cases hlt : i < j
      · obtain ⟨m, rfl⟩ : ∃ m, j = m + 1 := ⟨j - 1, by omega⟩
        obtain ⟨d, hd⟩ : ∃ d, m + 1 - i = d + 1 := ⟨m - i, by omega⟩
        have HD := Lib.hid hd
        have hk1 : k ≤ 11 := by omega
        have hP1 := HP.out d i (m + 1) hd (by rw [HLL.out]; exact hj)
        rw [Nat.add_sub_cancel] at hP1
        obtain ⟨hh0, hh1, hT2'⟩ := hT.out
        rw [hd, hP1] at hT2'
        have HG1 := HGE.out d i m (by omega) (by omega)
        have HG2 := HGE.out d (i + 1) (m + 1) (by omega) (by omega)
        obtain ⟨b1, o1, rfl, l1, hx, p1⟩ := (hr.later hB (Nat.le_refl _)).num (show i < n by omega)
        obtain ⟨b2, o2, eA, _, hx2, p2⟩ := (hr.later hB (Nat.le_refl _)).num (show m < n by omega)
        injection eA with eA; injection eA with eA1 eA2
        subst eA1 eA2
        obtain ⟨b3, o3, eA, l3, _, _⟩ := hr.num (show i < n by omega)
        injection eA with eA; injection eA with eA1 eA2
        subst eA1 eA2
        have q1 : L[i] = L.getD i 0 := by rw [List.getD_eq_getElem?_getD, List.getElem?_eq_getElem hx]; rfl
        have q2 : L[m] = L.getD m 0 := by rw [List.getD_eq_getElem?_getD, List.getElem?_eq_getElem hx2]; rfl
        rw [q1] at p1
        rw [q2] at p2
        have hz1 := getD_in (l := L) (k := i) hx H4.out
        have hz2 := getD_in (l := L) (k := m) hx2 H4.out
        have hne : b1 ≠ w.heap.size := by omega
        have hin : ((i : Int) < (n : Int)) = True := by simp; omega
        have hwm : IntKind.i64.wrap (m : Int) = (m : Int) := IntWalk.i64_in _ (by omega)
        have hjn : ((m : Int) < (n : Int)) = True := by simp; omega
        have H10 := Lib.hid HG1.1
        have H11 := Lib.hid HG1.2.1
        have H20 := Lib.hid HG2.1
        have H21 := Lib.hid HG2.2.1
        clear hP1 hT q1 q2 hx hx2 hd HG1 HG2
        generalize L.getD i 0 = z1 at *
        generalize L.getD m 0 = z2 at *
        generalize hq1 : (gkP d (subL L i m)) = Q1 at *
        generalize hq2 : (gkP d (subL L (i + 1) (m + 1))) = Q2 at *
        have HQ1 := Lib.hid hq1
        have HQ2 := Lib.hid hq2
        clear hq1 hq2
        by_cases hx : z1 < z2
        · rw [if_pos hx] at hT2'
          have hx' : ¬ (z2 ≤ z1) := by omega
          rcases (show k % 2 = 0 ∨ k % 2 = 1 by omega) with hkq | hkq
          · have hkp : k % 2 = 0 := hkq
            have hk2 : (k : Int) % 2 = 0 := by omega
            have hk3 : (k : Int).tmod 2 = 0 := by rw [Int.tmod_eq_emod_of_nonneg (by omega)]; exact hk2
            have hkn : (k + 1) % 2 = 1 := by omega
            have HN : Hid (gkK (k + 1) (h0 + z2) h1 Q1 = (T1, T2)) := by
              simp only [Hid]
              unfold gkK at hT2' ⊢
              rw [if_pos hkp] at hT2'
              rw [if_neg (by omega)]
              simp only [Prod.mk.injEq] at hT2' ⊢; omega
            have hb : h0 + z2 ≤ 30000 := by
              have a1 := H10.out
              have a2 := H11.out
              unfold gkK at hT2'
              rw [if_pos hkp] at hT2'
              simp only [Prod.mk.injEq] at hT2'; omega
            have hw : IntKind.i64.wrap (h0 + z2) = h0 + z2 := IntWalk.i64_in _ (by omega)
            clear hT2' hkp hkn hkq
            go_wp2
            go_quiet (fail)
            have c0' : (wr.drewN nq).cell? ⟨w.heap.size, 0, none⟩ = some (.int .i64 h0) := c0
            have c1' : (wr.drewN nq).cell? ⟨w.heap.size, 1, none⟩ = some (.int .i64 h1) := c1
            have p1' : (wr.drewN nq).cell? ⟨b1, o1 + i, none⟩ = some (.int .i64 z1) := p1
            have p2' : (wr.drewN nq).cell? ⟨b1, o1 + m, none⟩ = some (.int .i64 z2) := p2
            have f0' : (wr.drewN nq).frozen? ⟨w.heap.size, 0, none⟩ = false := f0
            have f1' : (wr.drewN nq).frozen? ⟨w.heap.size, 1, none⟩ = false := f1
            have hwl' : w.heap.size < (wr.drewN nq).heap.size := hwl
            have hB' : Below w.heap.size w (wr.drewN nq) := bdrewN nq hB
            clear c0 c1 p1 p2 f0 f1 hwl hB l1
            generalize wr.drewN nq = wz at *
            go_wp2
            go_still_tail 12, (by kernel_rfl)
            change wpList _ _ _ _ _ wz.drew
            have d0 : wz.drew.cell? ⟨w.heap.size, 0, none⟩ = some (.int .i64 h0) := c0'
            have d1 : wz.drew.cell? ⟨w.heap.size, 1, none⟩ = some (.int .i64 h1) := c1'
            have g0 : wz.drew.frozen? ⟨w.heap.size, 0, none⟩ = false := f0'
            have g1 : wz.drew.frozen? ⟨w.heap.size, 1, none⟩ = false := f1'
            have hwd : w.heap.size < wz.drew.heap.size := hwl'
            have hBd : Below w.heap.size w wz.drew := hB'.drew
            clear c0' c1' p1' p2' f0' f1' hwl' hB'
            generalize wz.drew = wd at *
            have N0 : Hid ((wd.setCell ⟨w.heap.size, 0, none⟩ (.int .i64 (h0 + z2))).cell? ⟨w.heap.size, 0, none⟩ = some (.int .i64 (h0 + z2))) := World.cell?_setCell_same _ _ _ d0
            have N1 : Hid ((wd.setCell ⟨w.heap.size, 0, none⟩ (.int .i64 (h0 + z2))).cell? ⟨w.heap.size, 1, none⟩ = some (.int .i64 h1)) := (World.cell?_setCell_other _ _ _ _ (by simp)).trans d1
            go_wp2
            go_roundw
            case rel => exact ⟨i, m, k + 1, (h0 + z2), h1, by (first | rfl | go_num), by (first | rfl | go_num), by (first | rfl | go_num), by omega, by omega, by omega, N0.out, N1.out, by (rw [World.frozen?_setCell]; exact g0), by (rw [World.frozen?_setCell]; exact g1), by (simpa using hwd), by (repeat (first | (with_reducible exact Below.refl _ _) | (with_reducible assumption) | (with_reducible refine Below.drew ?_) | ((with_reducible refine balloc ?_ _ ?_); · (first | (simp; done) | (simp; omega) | omega)) | ((with_reducible refine bset ?_ _ ?_); · (first | (simp; done) | (simp; omega) | omega)) | (with_reducible refine bdrewN _ ?_) | ((with_reducible refine bcall ?_ (by assumption) ?_); · (first | (simp; done) | (simp; omega) | omega)))), by omega, by omega, by (have e := HN.out; have e2 := HD.out; rw [show (m) - (i) = d by omega, HQ1.out]; exact e)⟩
            case measure => simp [intOf]; omega
          · have hkp : k % 2 = 1 := hkq
            have hk2 : (k : Int) % 2 = 1 := by omega
            have hk3 : (k : Int).tmod 2 = 1 := by rw [Int.tmod_eq_emod_of_nonneg (by omega)]; exact hk2
            have hkn : (k + 1) % 2 = 0 := by omega
            have HN : Hid (gkK (k + 1) h0 (h1 + z2) Q1 = (T1, T2)) := by
              simp only [Hid]
              unfold gkK at hT2' ⊢
              rw [if_neg (by omega)] at hT2'
              rw [if_pos hkn]
              simp only [Prod.mk.injEq] at hT2' ⊢; omega
            have hb : h1 + z2 ≤ 30000 := by
              have a1 := H10.out
              have a2 := H11.out
              unfold gkK at hT2'
              rw [if_neg (by omega)] at hT2'
              simp only [Prod.mk.injEq] at hT2'; omega
            have hw : IntKind.i64.wrap (h1 + z2) = h1 + z2 := IntWalk.i64_in _ (by omega)
            clear hT2' hkp hkn hkq
            go_wp2
            go_quiet (fail)
            have c0' : (wr.drewN nq).cell? ⟨w.heap.size, 0, none⟩ = some (.int .i64 h0) := c0
            have c1' : (wr.drewN nq).cell? ⟨w.heap.size, 1, none⟩ = some (.int .i64 h1) := c1
            have p1' : (wr.drewN nq).cell? ⟨b1, o1 + i, none⟩ = some (.int .i64 z1) := p1
            have p2' : (wr.drewN nq).cell? ⟨b1, o1 + m, none⟩ = some (.int .i64 z2) := p2
            have f0' : (wr.drewN nq).frozen? ⟨w.heap.size, 0, none⟩ = false := f0
            have f1' : (wr.drewN nq).frozen? ⟨w.heap.size, 1, none⟩ = false := f1
            have hwl' : w.heap.size < (wr.drewN nq).heap.size := hwl
            have hB' : Below w.heap.size w (wr.drewN nq) := bdrewN nq hB
            clear c0 c1 p1 p2 f0 f1 hwl hB l1
            generalize wr.drewN nq = wz at *
            go_wp2
            go_still_tail 12, (by kernel_rfl)
            change wpList _ _ _ _ _ wz.drew
            have d0 : wz.drew.cell? ⟨w.heap.size, 0, none⟩ = some (.int .i64 h0) := c0'
            have d1 : wz.drew.cell? ⟨w.heap.size, 1, none⟩ = some (.int .i64 h1) := c1'
            have g0 : wz.drew.frozen? ⟨w.heap.size, 0, none⟩ = false := f0'
            have g1 : wz.drew.frozen? ⟨w.heap.size, 1, none⟩ = false := f1'
            have hwd : w.heap.size < wz.drew.heap.size := hwl'
            have hBd : Below w.heap.size w wz.drew := hB'.drew
            clear c0' c1' p1' p2' f0' f1' hwl' hB'
            generalize wz.drew = wd at *
            have N0 : Hid ((wd.setCell ⟨w.heap.size, 1, none⟩ (.int .i64 (h1 + z2))).cell? ⟨w.heap.size, 1, none⟩ = some (.int .i64 (h1 + z2))) := World.cell?_setCell_same _ _ _ d1
            have N1 : Hid ((wd.setCell ⟨w.heap.size, 1, none⟩ (.int .i64 (h1 + z2))).cell? ⟨w.heap.size, 0, none⟩ = some (.int .i64 h0)) := (World.cell?_setCell_other _ _ _ _ (by simp)).trans d0
            go_wp2
            go_roundw
            case rel => exact ⟨i, m, k + 1, h0, (h1 + z2), by (first | rfl | go_num), by (first | rfl | go_num), by (first | rfl | go_num), by omega, by omega, by omega, N1.out, N0.out, by (rw [World.frozen?_setCell]; exact g0), by (rw [World.frozen?_setCell]; exact g1), by (simpa using hwd), by (repeat (first | (with_reducible exact Below.refl _ _) | (with_reducible assumption) | (with_reducible refine Below.drew ?_) | ((with_reducible refine balloc ?_ _ ?_); · (first | (simp; done) | (simp; omega) | omega)) | ((with_reducible refine bset ?_ _ ?_); · (first | (simp; done) | (simp; omega) | omega)) | (with_reducible refine bdrewN _ ?_) | ((with_reducible refine bcall ?_ (by assumption) ?_); · (first | (simp; done) | (simp; omega) | omega)))), by omega, by omega, by (have e := HN.out; have e2 := HD.out; rw [show (m) - (i) = d by omega, HQ1.out]; exact e)⟩
            case measure => simp [intOf]; omega
        · rw [if_neg hx] at hT2'
          have hx' : z2 ≤ z1 := by omega
          rcases (show k % 2 = 0 ∨ k % 2 = 1 by omega) with hkq | hkq
          · have hkp : k % 2 = 0 := hkq
            have hk2 : (k : Int) % 2 = 0 := by omega
            have hk3 : (k : Int).tmod 2 = 0 := by rw [Int.tmod_eq_emod_of_nonneg (by omega)]; exact hk2
            have hkn : (k + 1) % 2 = 1 := by omega
            have HN : Hid (gkK (k + 1) (h0 + z1) h1 Q2 = (T1, T2)) := by
              simp only [Hid]
              unfold gkK at hT2' ⊢
              rw [if_pos hkp] at hT2'
              rw [if_neg (by omega)]
              simp only [Prod.mk.injEq] at hT2' ⊢; omega
            have hb : h0 + z1 ≤ 30000 := by
              have a1 := H20.out
              have a2 := H21.out
              unfold gkK at hT2'
              rw [if_pos hkp] at hT2'
              simp only [Prod.mk.injEq] at hT2'; omega
            have hw : IntKind.i64.wrap (h0 + z1) = h0 + z1 := IntWalk.i64_in _ (by omega)
            clear hT2' hkp hkn hkq
            go_wp2
            go_quiet (fail)
            have c0' : (wr.drewN nq).cell? ⟨w.heap.size, 0, none⟩ = some (.int .i64 h0) := c0
            have c1' : (wr.drewN nq).cell? ⟨w.heap.size, 1, none⟩ = some (.int .i64 h1) := c1
            have p1' : (wr.drewN nq).cell? ⟨b1, o1 + i, none⟩ = some (.int .i64 z1) := p1
            have p2' : (wr.drewN nq).cell? ⟨b1, o1 + m, none⟩ = some (.int .i64 z2) := p2
            have f0' : (wr.drewN nq).frozen? ⟨w.heap.size, 0, none⟩ = false := f0
            have f1' : (wr.drewN nq).frozen? ⟨w.heap.size, 1, none⟩ = false := f1
            have hwl' : w.heap.size < (wr.drewN nq).heap.size := hwl
            have hB' : Below w.heap.size w (wr.drewN nq) := bdrewN nq hB
            clear c0 c1 p1 p2 f0 f1 hwl hB l1
            generalize wr.drewN nq = wz at *
            go_wp2
            go_still_tail 11, (by kernel_rfl)
            change wpList _ _ _ _ _ wz.drew
            have d0 : wz.drew.cell? ⟨w.heap.size, 0, none⟩ = some (.int .i64 h0) := c0'
            have d1 : wz.drew.cell? ⟨w.heap.size, 1, none⟩ = some (.int .i64 h1) := c1'
            have g0 : wz.drew.frozen? ⟨w.heap.size, 0, none⟩ = false := f0'
            have g1 : wz.drew.frozen? ⟨w.heap.size, 1, none⟩ = false := f1'
            have hwd : w.heap.size < wz.drew.heap.size := hwl'
            have hBd : Below w.heap.size w wz.drew := hB'.drew
            clear c0' c1' p1' p2' f0' f1' hwl' hB'
            generalize wz.drew = wd at *
            have N0 : Hid ((wd.setCell ⟨w.heap.size, 0, none⟩ (.int .i64 (h0 + z1))).cell? ⟨w.heap.size, 0, none⟩ = some (.int .i64 (h0 + z1))) := World.cell?_setCell_same _ _ _ d0
            have N1 : Hid ((wd.setCell ⟨w.heap.size, 0, none⟩ (.int .i64 (h0 + z1))).cell? ⟨w.heap.size, 1, none⟩ = some (.int .i64 h1)) := (World.cell?_setCell_other _ _ _ _ (by simp)).trans d1
            go_wp2
            go_roundw
            case rel => exact ⟨i + 1, m + 1, k + 1, (h0 + z1), h1, by (first | rfl | go_num), by (first | rfl | go_num), by (first | rfl | go_num), by omega, by omega, by omega, N0.out, N1.out, by (rw [World.frozen?_setCell]; exact g0), by (rw [World.frozen?_setCell]; exact g1), by (simpa using hwd), by (repeat (first | (with_reducible exact Below.refl _ _) | (with_reducible assumption) | (with_reducible refine Below.drew ?_) | ((with_reducible refine balloc ?_ _ ?_); · (first | (simp; done) | (simp; omega) | omega)) | ((with_reducible refine bset ?_ _ ?_); · (first | (simp; done) | (simp; omega) | omega)) | (with_reducible refine bdrewN _ ?_) | ((with_reducible refine bcall ?_ (by assumption) ?_); · (first | (simp; done) | (simp; omega) | omega)))), by omega, by omega, by (have e := HN.out; have e2 := HD.out; rw [show (m + 1) - (i + 1) = d by omega, HQ2.out]; exact e)⟩
            case measure => simp [intOf]; omega
          · have hkp : k % 2 = 1 := hkq
            have hk2 : (k : Int) % 2 = 1 := by omega
            have hk3 : (k : Int).tmod 2 = 1 := by rw [Int.tmod_eq_emod_of_nonneg (by omega)]; exact hk2
            have hkn : (k + 1) % 2 = 0 := by omega
            have HN : Hid (gkK (k + 1) h0 (h1 + z1) Q2 = (T1, T2)) := by
              simp only [Hid]
              unfold gkK at hT2' ⊢
              rw [if_neg (by omega)] at hT2'
              rw [if_pos hkn]
              simp only [Prod.mk.injEq] at hT2' ⊢; omega
            have hb : h1 + z1 ≤ 30000 := by
              have a1 := H20.out
              have a2 := H21.out
              unfold gkK at hT2'
              rw [if_neg (by omega)] at hT2'
              simp only [Prod.mk.injEq] at hT2'; omega
            have hw : IntKind.i64.wrap (h1 + z1) = h1 + z1 := IntWalk.i64_in _ (by omega)
            clear hT2' hkp hkn hkq
            go_wp2
            go_quiet (fail)
            have c0' : (wr.drewN nq).cell? ⟨w.heap.size, 0, none⟩ = some (.int .i64 h0) := c0
            have c1' : (wr.drewN nq).cell? ⟨w.heap.size, 1, none⟩ = some (.int .i64 h1) := c1
            have p1' : (wr.drewN nq).cell? ⟨b1, o1 + i, none⟩ = some (.int .i64 z1) := p1
            have p2' : (wr.drewN nq).cell? ⟨b1, o1 + m, none⟩ = some (.int .i64 z2) := p2
            have f0' : (wr.drewN nq).frozen? ⟨w.heap.size, 0, none⟩ = false := f0
            have f1' : (wr.drewN nq).frozen? ⟨w.heap.size, 1, none⟩ = false := f1
            have hwl' : w.heap.size < (wr.drewN nq).heap.size := hwl
            have hB' : Below w.heap.size w (wr.drewN nq) := bdrewN nq hB
            clear c0 c1 p1 p2 f0 f1 hwl hB l1
            generalize wr.drewN nq = wz at *
            go_wp2
            go_still_tail 11, (by kernel_rfl)
            change wpList _ _ _ _ _ wz.drew
            have d0 : wz.drew.cell? ⟨w.heap.size, 0, none⟩ = some (.int .i64 h0) := c0'
            have d1 : wz.drew.cell? ⟨w.heap.size, 1, none⟩ = some (.int .i64 h1) := c1'
            have g0 : wz.drew.frozen? ⟨w.heap.size, 0, none⟩ = false := f0'
            have g1 : wz.drew.frozen? ⟨w.heap.size, 1, none⟩ = false := f1'
            have hwd : w.heap.size < wz.drew.heap.size := hwl'
            have hBd : Below w.heap.size w wz.drew := hB'.drew
            clear c0' c1' p1' p2' f0' f1' hwl' hB'
            generalize wz.drew = wd at *
            have N0 : Hid ((wd.setCell ⟨w.heap.size, 1, none⟩ (.int .i64 (h1 + z1))).cell? ⟨w.heap.size, 1, none⟩ = some (.int .i64 (h1 + z1))) := World.cell?_setCell_same _ _ _ d1
            have N1 : Hid ((wd.setCell ⟨w.heap.size, 1, none⟩ (.int .i64 (h1 + z1))).cell? ⟨w.heap.size, 0, none⟩ = some (.int .i64 h0)) := (World.cell?_setCell_other _ _ _ _ (by simp)).trans d0
            go_wp2
            go_roundw
            case rel => exact ⟨i + 1, m + 1, k + 1, h0, (h1 + z1), by (first | rfl | go_num), by (first | rfl | go_num), by (first | rfl | go_num), by omega, by omega, by omega, N1.out, N0.out, by (rw [World.frozen?_setCell]; exact g0), by (rw [World.frozen?_setCell]; exact g1), by (simpa using hwd), by (repeat (first | (with_reducible exact Below.refl _ _) | (with_reducible assumption) | (with_reducible refine Below.drew ?_) | ((with_reducible refine balloc ?_ _ ?_); · (first | (simp; done) | (simp; omega) | omega)) | ((with_reducible refine bset ?_ _ ?_); · (first | (simp; done) | (simp; omega) | omega)) | (with_reducible refine bdrewN _ ?_) | ((with_reducible refine bcall ?_ (by assumption) ?_); · (first | (simp; done) | (simp; omega) | omega)))), by omega, by omega, by (have e := HN.out; have e2 := HD.out; rw [show (m + 1) - (i + 1) = d by omega, HQ2.out]; exact e)⟩
            case measure => simp [intOf]; omega
      · have hij2 : j - i = 0 := by omega
        obtain ⟨_, _, hT2'⟩ := hT.out
        rw [hij2] at hT2'
        have HE : Hid (h0 = T1 ∧ h1 = T2) := by
          simp only [Hid]
          unfold gkK gkP at hT2'
          split at hT2' <;> simpa using hT2'
        clear hT hT2' hij2
        go_wp2
        go_quiet (fail)
        go_wp2
        go_ret3
        exact ⟨by rw [HE.out.1, HE.out.2]; rfl, by (repeat (first | (with_reducible exact Below.refl _ _) | (with_reducible assumption) | (with_reducible refine Below.drew ?_) | ((with_reducible refine balloc ?_ _ ?_); · (first | (simp; done) | (simp; omega) | omega)) | ((with_reducible refine bset ?_ _ ?_); · (first | (simp; done) | (simp; omega) | omega)) | (with_reducible refine bdrewN _ ?_) | ((with_reducible refine bcall ?_ (by assumption) ?_); · (first | (simp; done) | (simp; omega) | omega))))⟩

end Go.Proofs.Ytkijcpbjjbhnhaa
