/-
  Contract: what the poorest of the model can have (skPoorest). Conditions: none.
-/
import Derived.Test.YtkijcpbjjbhnhaaPoorW
import Derived.Test.YtkijcpbjjbhnhaaOwnI
import Derived.Test.YtkijcpbjjbhnhaaMinMax
import Derived.Test.YtkijcpbjjbhnhaaRegA
namespace Go.Proofs.Ytkijcpbjjbhnhaa
open Go.RowKit
set_option linter.unusedVariables false
set_option linter.unusedSimpArgs false

theorem rd_takeP {w : World} {b o n : Nat} {l : List Int} (h : Rd w 1 (some ⟨b, o, none⟩) n (intCells l)) {i : Nat} (hi : i ≤ n) : Rd w 1 (some ⟨b, o, none⟩) i (intCells (l.take i)) := by
  have hl := h.ilen
  refine ⟨by rw [length_intCells, List.length_take]; omega, fun hn => ?_⟩
  obtain ⟨b', o', e, hb, hc⟩ := h.2 (by omega)
  refine ⟨b', o', e, hb, fun j u hu => hc j u ?_⟩
  have hj : j < i := by have := (List.getElem?_eq_some_iff.1 hu).1; rw [length_intCells, List.length_take] at this; omega
  rw [← hu]
  simp [intCells, List.getElem?_take, hj]
theorem hasI_take {l : List Int} {i : Nat} (hi : i < l.length) (h : hasI (l.take i) l[i] = true) : ∃ j, j < i ∧ l.getD j 0 = l.getD i 0 := by
  unfold hasI at h
  simp at h
  obtain ⟨j, hj, e⟩ := List.mem_iff_getElem.1 h
  rw [List.length_take] at hj
  refine ⟨j, by omega, ?_⟩
  rw [List.getElem_take] at e
  simp [List.getD, hi, show j < l.length by omega, e]
theorem foldMin_take {l : List Int} {k : Nat} (hk : k < l.length) (a : Int) : (l.take (k + 1)).foldl min a = min ((l.take k).foldl min a) l[k] := by
  rw [List.take_succ_eq_append_getElem hk, List.foldl_append]; rfl
theorem own_capP {w : World} {B e z n c : Nat} {A : Option Addr} {xs : List Value} (h : w.ownsRow B e z (.slice A n c) n xs) (hn : 0 < n) : n ≤ c ∧ c ≤ maxLen := by
  rcases h.2 with ⟨h', h0⟩ | ⟨g, cap, cur, h', hb, hg, hnc, hcm, _⟩
  · omega
  · simp only [Value.slice.injEq] at h'
    obtain ⟨_, _, rfl⟩ := h'
    exact ⟨hnc, hcm⟩
theorem bump_boundM {h : List Int} {i : Nat} {v : Int} {B : Int} (hh : ∀ x ∈ h, 0 ≤ x ∧ x ≤ B) (hv : 0 ≤ v ∧ v ≤ 1000) (hB : 0 ≤ B) : ∀ x ∈ bumpL h i v, 0 ≤ x ∧ x ≤ B + 1000 := by
  intro x hx
  unfold bumpL at hx
  rcases List.mem_or_eq_of_mem_set hx with hx | hx
  · have := hh x hx; omega
  · rw [hx]
    by_cases hi : i < h.length
    · have := hh _ (List.getElem_mem hi)
      simp only [List.getD, List.getElem?_eq_getElem hi, Option.getD_some]
      omega
    · simp only [List.getD, List.getElem?_eq_none (by omega : h.length ≤ i), Option.getD_none]
      omega
theorem bump_cells {h : List Int} {i : Nat} (v : Int) (hi : i < h.length) : (intCells h).set i (.int .i64 (h[i] + v)) = intCells (bumpL h i v) := by
  unfold bumpL intCells
  rw [List.map_set, show h.getD i 0 = h[i] by simp [List.getD, hi]]
set_option maxRecDepth 100000 in
set_option maxHeartbeats 4000000 in
theorem skPoor_any : ∀ (ws L h : List Int) (n c kk m ch : Nat) (A Ah : Option Addr) (w : World), Rd w 1 A n (intCells L) → L.drop kk = ws → kk ≤ n → n ≤ 12 → Rd w 1 Ah m (intCells h) → 1 ≤ m → m ≤ 4 → m ≤ ch → ch ≤ maxLen → (∀ x ∈ h, 0 ≤ x ∧ x ≤ 20000 - 1000 * (ws.length : Int)) → (∀ z ∈ L, 1 ≤ z ∧ z ≤ 1000) →
    Calls Try.prog 55 #[.slice A n c, .slice Ah m ch, .int .i64 kk] w fun e w' => e = .returned (.int .i64 (poorV ws h)) ∧ Below w.heap.size w w'
  | [], L, h, n, c, kk, m, ch, A, Ah, w, hr, hd, hkn, hn, hrh, hm1, hm4, hmc, hch, hhb, hz => by
    have hll := hr.ilen
    have hkk : kk = n := by have := congrArg List.length hd; rw [List.length_drop] at this; simp at this; omega
    subst hkk
    have HML := Lib.hid hrh.ilen
    have HV : Hid (poorV [] h = (h.take m).foldl min (h.headD 0)) := by
      simp only [Hid]; rw [List.take_of_length_le (by rw [HML.out]; exact Nat.le_refl _)]; rfl
    have HH0 : Hid (h.headD 0 = h[0]'(by rw [HML.out]; omega)) := by
      simp only [Hid]
      cases h
      · exfalso
        have hl : (0 : Nat) = m := HML.out
        omega
      · rfl
    obtain ⟨bh, oh, rfl, hbl, hx0, p0⟩ := hrh.num (show 0 < m by omega)
    rw [← HH0.out, Nat.add_zero] at p0
    have HRH := Lib.hid hrh
    rw [HV.out]
    generalize h.headD 0 = z0 at *
    clear hll hd hz hr hhb hrh HH0 HV
    go_enter Try.func55, Try.ntmps55
    go_wp2
    go_loop [7, 22] (fun t i => ∃ k : Nat, k ≤ m ∧ i = .int .i64 k ∧ t = .int .i64 ((h.take k).foldl min z0)) (fun _ i => m - (intOf i).toNat)
    case atStart => exact ⟨0, Nat.zero_le _, rfl, rfl⟩
    case round =>
      obtain ⟨k, hk, rfl, rfl⟩ := hrel
      by_cases hlt : k < m
      · obtain ⟨b1, o1, e, _, hx, p1⟩ := HRH.out.num hlt
        injection e with e; injection e with e1 e2
        subst e1 e2
        have HS := Lib.hid (foldMin_take hx z0)
        generalize (h.take k).foldl min z0 = S at *
        generalize h[k] = z at *
        go_wp2_with fail
        refine (l1Least_min _ _ _).mono ?_; rintro e wx ⟨rfl, rfl⟩
        go_wp2
        go_round
        case rel => exact ⟨k + 1, by omega, by go_num, by rw [HS.out]⟩
        case measure => simp [intOf]; omega
      · have hkm : k = m := by omega
        subst hkm
        go_wp2
        go_ret
        exact ⟨rfl, Below.refl _ _⟩
  | v :: ws, L, h, n, c, kk, m, ch, A, Ah, w, hr, hd, hkn, hn, hrh, hm1, hm4, hmc, hch, hhb, hz => by
    have hll := hr.ilen
    have hkl : kk < L.length := by
      have := congrArg List.length hd; rw [List.length_drop] at this; simp at this; omega
    have hd2 := List.drop_eq_getElem_cons hkl
    rw [hd] at hd2
    injection hd2 with hv1 hd3
    have hvb := hz _ (List.getElem_mem hkl)
    have hkn' : kk < n := by omega
    obtain ⟨b, o, rfl, hbl, hxk, pk⟩ := hr.num hkn'
    rw [← hv1] at pk hvb
    have HIH := Lib.hid (skPoor_any ws L)
    have HD := Lib.hid hd3.symm
    have HZ := Lib.hid hz
    have HR := Lib.hid hr
    have HHB : Hid (∀ x ∈ h, 0 ≤ x ∧ x ≤ 20000 - 1000 * ((ws.length : Int) + 1)) := fun x hx => by have := hhb x hx; simp at this; omega
    have HML := Lib.hid hrh.ilen
    obtain ⟨bh, oh, rfl, hbhl, _⟩ := hrh.2 (by omega)
    have HRH := Lib.hid hrh
    obtain ⟨R, hR⟩ : ∃ R, Hid (poorV (v :: ws) h = R) := ⟨_, rfl⟩
    rw [hR.out]
    have hne : ((kk : Int) = (n : Int)) = False := by simp; omega
    have hneb : ((kk : Int) == (n : Int)) = false := by simp; omega
    clear hll hd hd3 hv1 hz hr hhb hrh hxk hkl
    go_enter Try.func55, Try.ntmps55
    go_wp2
    go_loopw [10, 33] (fun t i wr => ∃ (i' : Nat) (t' : Int), i' ≤ m ∧ i = .int .i64 (i' : Int) ∧ t = .int .i64 t' ∧ Hid (TopI h v ws i' t') ∧ Hid (Below w.heap.size w wr)) (fun _ i _ => m - (intOf i).toNat)
    case atStart => exact ⟨0, -1, Nat.zero_le _, rfl, rfl, TopI.start (by omega), Below.refl _ _⟩
    case round =>
      obtain ⟨i, t, hi, rfl, rfl, hTop, hB⟩ := hrel
      by_cases hlt : i < m
      · have hil : i < h.length := by rw [HML.out]; exact hlt
        have hRw := HRH.out.later hB.out (Nat.le_refl _)
        have HRw := Lib.hid hRw
        obtain ⟨b1, o1, e, hbhw, hx, p1⟩ := hRw.num hlt
        injection e with e; injection e with e1 e2
        subst e1 e2
        have HHAS := Lib.hid (fun wx (hh : Rd wx 1 (some ⟨bh, oh, none⟩) i (intCells (h.take i))) => l1HasI_any (some ⟨bh, oh, none⟩) i ch (h.take i) h[i] wx hh (by omega))
        have pw : wr.cell? ⟨b, o + kk, none⟩ = some (.int .i64 v) := (hB.out.cell (p := ⟨b, o + kk, none⟩) hbl).trans pk
        have HTAKE := Lib.hid (rd_takeP hRw (i := i) (by omega))
        have HXV := HHB.out _ (List.getElem_mem hil)
        have HBUMP := Lib.hid (bump_cells (h := h) v hil)
        have HI := Lib.hid (hasI_take hil)
        have hOW := Lib.hid (l1OwnN_any (some ⟨bh, oh, none⟩) m ch h)
        have hic : i ≤ ch := by omega
        have HXI := Lib.hid (List.getElem?_eq_getElem hil)
        generalize h[i] = x at *
        clear hRw
        cases hh : hasI (h.take i) x
        · rw [hh] at HHAS
          have HTK := Lib.hid hTop.out.take
          clear HI hTop hh
          go_wp2
          refine wp_region_held_drew (S := (fun w' => w'.cell? ⟨bh, oh + i, none⟩ = some (.int .i64 x))) (by kernel_rfl) ?_ (fun hHeld => ?_)
          · ((try dsimp only); (repeat' apply And.intro); all_goals ((repeat (first | (with_reducible refine cell_drew ?_) | (with_reducible refine cell_drewN _ ?_) | ((with_reducible refine cell_alloc ?_ ?_); · first | omega | (simp; done) | (simp; omega) | assumption) | ((with_reducible refine cell_set ?_ ?_); · first | (intro e; injection e; omega) | (intro e; simp at e; done) | (intro e; simp at e; omega)))); first | assumption | (simp; done)))
          refine reg_on (i := 0) (d := 36) (v := ?rv1) rfl rfl (by kernel_rfl) (by kernel_rfl) (by kernel_rfl) (fun _ _ _ h => h) (by rfl) ?ry1 (by assumption) ?rr1
          case ry1 => (intro wz hSw; (try dsimp only at hSw); go_simp; try with_reducible rfl)
          (try simp only [Act.put, List.setIfInBounds_toArray, List.set_cons_zero, List.set_cons_succ])
          refine reg_on (i := 1) (d := 37) (v := ?rv2) rfl rfl (by kernel_rfl) (by kernel_rfl) (by kernel_rfl) (fun _ _ _ h => h) (by rfl) ?ry2 (by assumption) ?rr2
          case ry2 => (intro wz hSw; (try dsimp only at hSw); go_simp; try with_reducible rfl)
          (try simp only [Act.put, List.setIfInBounds_toArray, List.set_cons_zero, List.set_cons_succ])
          refine reg_on (i := 2) (d := 38) (v := ?rv3) rfl rfl (by kernel_rfl) (by kernel_rfl) (by kernel_rfl) (fun _ _ _ h => h) (by rfl) ?ry3 (by assumption) ?rr3
          case ry3 => (intro wz hSw; (try dsimp only at hSw); go_simp; try with_reducible rfl)
          (try simp only [Act.put, List.setIfInBounds_toArray, List.set_cons_zero, List.set_cons_succ])
          refine reg_on (i := 3) (d := 39) (v := ?rv4) rfl rfl (by kernel_rfl) (by kernel_rfl) (by kernel_rfl) (fun _ _ _ h => h) (by rfl) ?ry4 (by assumption) ?rr4
          case ry4 => (intro wz hSw; (try dsimp only at hSw); go_simp; try with_reducible rfl)
          (try simp only [Act.put, List.setIfInBounds_toArray, List.set_cons_zero, List.set_cons_succ])
          refine reg_on (i := 4) (d := 40) (v := ?rv5) rfl rfl (by kernel_rfl) (by kernel_rfl) (by kernel_rfl) (fun _ _ _ h => h) (by rfl) ?ry5 (by assumption) ?rr5
          case ry5 => (intro wz hSw; (try dsimp only at hSw); go_simp; try with_reducible rfl)
          (try simp only [Act.put, List.setIfInBounds_toArray, List.set_cons_zero, List.set_cons_succ])
          refine reg_on (i := 5) (d := 41) (v := ?rv6) rfl rfl (by kernel_rfl) (by kernel_rfl) (by kernel_rfl) (fun _ _ _ h => h) (by rfl) ?ry6 (by assumption) ?rr6
          case ry6 => (intro wz hSw; (try dsimp only at hSw); go_simp; try with_reducible rfl)
          (try simp only [Act.put, List.setIfInBounds_toArray, List.set_cons_zero, List.set_cons_succ])
          refine reg_on (i := 6) (d := 42) (v := ?rv7) rfl rfl (by kernel_rfl) (by kernel_rfl) (by kernel_rfl) (fun _ _ _ h => h) (by rfl) ?ry7 (by assumption) ?rr7
          case ry7 => (intro wz hSw; (try dsimp only at hSw); go_simp; try with_reducible rfl)
          (try simp only [Act.put, List.setIfInBounds_toArray, List.set_cons_zero, List.set_cons_succ])
          refine wpAnyH_ready (rs := [7]) (by kernel_rfl) (by simp) ?_
          refine AllReadyH.cons rfl (fun K hK => ?_) AllReadyH.nil
          go_simp
          go_at_call 75; refine (HHAS.out _ (by exact HTAKE.out)).mono ?_; rintro e wx ⟨rfl, rfl⟩
          refine hK.out _ _ ?_ (fun hHeld => ?_)
          · ((try dsimp only); (repeat' apply And.intro); all_goals ((repeat (first | (with_reducible refine cell_drew ?_) | (with_reducible refine cell_drewN _ ?_) | ((with_reducible refine cell_alloc ?_ ?_); · first | omega | (simp; done) | (simp; omega) | assumption) | ((with_reducible refine cell_set ?_ ?_); · first | (intro e; injection e; omega) | (intro e; simp at e; done) | (intro e; simp at e; omega)))); first | assumption | (simp; done)))
          clear hK K
          (try simp only [Act.put, List.setIfInBounds_toArray, List.set_cons_zero, List.set_cons_succ])
          refine wpAnyH_done (by kernel_rfl) ?_ _
          go_wp2_with fail
          refine (hOW.out _ (by exact HRw.out) (fun e => by omega) (by omega)).mono ?_; rintro e w2 ⟨A2, cA, rfl, own2, hb2⟩
          have own2 : w2.ownsRow wr.heap.size 3 1 (.slice A2 m cA) m (intCells h) := own2
          have hb2 : Below wr.heap.size wr w2 := (Below.refl wr.heap.size wr).drew.trans hb2
          obtain ⟨g2, rfl, hg1, hg2⟩ := own_at own2 (by omega)
          have hcA := own_capP own2 (by omega)
          have c2 : w2.cell? ⟨g2, i, none⟩ = some (.int .i64 x) := by rw [own2.cellAt i (by omega)]; simp [intCells, HXI.out]
          have f2 : w2.frozen? ⟨g2, i, none⟩ = false := own2.frozenAt i
          have pk2 : w2.cell? ⟨b, o + kk, none⟩ = some (.int .i64 v) := (hb2.cell (p := ⟨b, o + kk, none⟩) (by have := hB.out.size; show b < wr.heap.size; omega)).trans pw
          have st := (own2.stored i (.int .i64 (x + v))).1
          rw [HBUMP.out] at st
          have H2 := Lib.hid (Rd.of_own st)
          have hB2 := hB.out.trans (hb2.mono hB.out.size)
          have HB3 := Lib.hid (bset (p := ⟨g2, i, none⟩) (by have := hB.out.size; show w.heap.size ≤ g2; omega) (.int .i64 (x + v)) hB2)
          have H1 := Lib.hid (HR.out.later HB3.out (Nat.le_refl _))
          have hwr : IntKind.i64.wrap (x + v) = x + v := IntWalk.i64_in _ (by omega)
          have HREC : Hid (∀ wx, Rd wx 1 (some ⟨b, o, none⟩) n (intCells L) → Rd wx 1 (some ⟨g2, 0, none⟩) m (intCells (bumpL h i v)) → Calls Try.prog 55 #[.slice (some ⟨b, o, none⟩) n c, .slice (some ⟨g2, 0, none⟩) m cA, .int .i64 ((kk : Int) + 1)] wx fun e w' => e = .returned (.int .i64 (poorV ws (bumpL h i v))) ∧ Below wx.heap.size wx w') := fun wx r1 r2 => by
            have hq := HIH.out (bumpL h i v) n c (kk + 1) m cA (some ⟨b, o, none⟩) (some ⟨g2, 0, none⟩) wx r1 HD.out (by omega) hn r2 hm1 hm4 hcA.1 hcA.2 (fun y hy => by
              have hy2 := (bump_boundM (v := v) HHB.out (by omega) (by omega) y hy)
              omega) HZ.out
            rw [show ((kk + 1 : Nat) : Int) = (kk : Int) + 1 by omega] at hq
            exact hq
          have hgt : g2 < w2.heap.size := hg2
          clear own2 hb2 st hB2 hOW HHAS
          generalize poorV ws (bumpL h i v) = V at *
          go_wp2
          go_still_tail 10, (by kernel_rfl)
          go_wp2_with (first | (go_at_call 55; refine (HREC.out _ (by exact H1.out) (by exact H2.out)).mono ?_; rintro e w5 ⟨rfl, hb5⟩) | (go_at_call 77; refine (l1Most_max _ _ _).mono ?_; rintro e wx ⟨rfl, rfl⟩))
          have HB5 : Hid (Below w.heap.size w w5) := by
            first
              | exact HB3.out.trans (hb5.mono HB3.out.size)
              | exact HB3.out.drew.trans (hb5.mono HB3.out.size)
          go_roundw
          case rel => exact ⟨i + 1, max t V, by omega, by go_num, rfl, HTK.out, HB5.out⟩
          case measure => simp [intOf]; omega
        · rw [hh] at HHAS
          obtain ⟨j, hj, ej⟩ := HI.out hh
          have HSK := Lib.hid (hTop.out.skip (ws := ws) hj (poor_same hil (by omega) ej.symm))
          clear HI hTop hh ej
          go_wp2
          refine wp_region_held_drew (S := (fun w' => w'.cell? ⟨bh, oh + i, none⟩ = some (.int .i64 x))) (by kernel_rfl) ?_ (fun hHeld => ?_)
          · ((try dsimp only); (repeat' apply And.intro); all_goals ((repeat (first | (with_reducible refine cell_drew ?_) | (with_reducible refine cell_drewN _ ?_) | ((with_reducible refine cell_alloc ?_ ?_); · first | omega | (simp; done) | (simp; omega) | assumption) | ((with_reducible refine cell_set ?_ ?_); · first | (intro e; injection e; omega) | (intro e; simp at e; done) | (intro e; simp at e; omega)))); first | assumption | (simp; done)))
          refine reg_on (i := 0) (d := 36) (v := ?rv9) rfl rfl (by kernel_rfl) (by kernel_rfl) (by kernel_rfl) (fun _ _ _ h => h) (by rfl) ?ry9 (by assumption) ?rr9
          case ry9 => (intro wz hSw; (try dsimp only at hSw); go_simp; try with_reducible rfl)
          (try simp only [Act.put, List.setIfInBounds_toArray, List.set_cons_zero, List.set_cons_succ])
          refine reg_on (i := 1) (d := 37) (v := ?rv10) rfl rfl (by kernel_rfl) (by kernel_rfl) (by kernel_rfl) (fun _ _ _ h => h) (by rfl) ?ry10 (by assumption) ?rr10
          case ry10 => (intro wz hSw; (try dsimp only at hSw); go_simp; try with_reducible rfl)
          (try simp only [Act.put, List.setIfInBounds_toArray, List.set_cons_zero, List.set_cons_succ])
          refine reg_on (i := 2) (d := 38) (v := ?rv11) rfl rfl (by kernel_rfl) (by kernel_rfl) (by kernel_rfl) (fun _ _ _ h => h) (by rfl) ?ry11 (by assumption) ?rr11
          case ry11 => (intro wz hSw; (try dsimp only at hSw); go_simp; try with_reducible rfl)
          (try simp only [Act.put, List.setIfInBounds_toArray, List.set_cons_zero, List.set_cons_succ])
          refine reg_on (i := 3) (d := 39) (v := ?rv12) rfl rfl (by kernel_rfl) (by kernel_rfl) (by kernel_rfl) (fun _ _ _ h => h) (by rfl) ?ry12 (by assumption) ?rr12
          case ry12 => (intro wz hSw; (try dsimp only at hSw); go_simp; try with_reducible rfl)
          (try simp only [Act.put, List.setIfInBounds_toArray, List.set_cons_zero, List.set_cons_succ])
          refine reg_on (i := 4) (d := 40) (v := ?rv13) rfl rfl (by kernel_rfl) (by kernel_rfl) (by kernel_rfl) (fun _ _ _ h => h) (by rfl) ?ry13 (by assumption) ?rr13
          case ry13 => (intro wz hSw; (try dsimp only at hSw); go_simp; try with_reducible rfl)
          (try simp only [Act.put, List.setIfInBounds_toArray, List.set_cons_zero, List.set_cons_succ])
          refine reg_on (i := 5) (d := 41) (v := ?rv14) rfl rfl (by kernel_rfl) (by kernel_rfl) (by kernel_rfl) (fun _ _ _ h => h) (by rfl) ?ry14 (by assumption) ?rr14
          case ry14 => (intro wz hSw; (try dsimp only at hSw); go_simp; try with_reducible rfl)
          (try simp only [Act.put, List.setIfInBounds_toArray, List.set_cons_zero, List.set_cons_succ])
          refine reg_on (i := 6) (d := 42) (v := ?rv15) rfl rfl (by kernel_rfl) (by kernel_rfl) (by kernel_rfl) (fun _ _ _ h => h) (by rfl) ?ry15 (by assumption) ?rr15
          case ry15 => (intro wz hSw; (try dsimp only at hSw); go_simp; try with_reducible rfl)
          (try simp only [Act.put, List.setIfInBounds_toArray, List.set_cons_zero, List.set_cons_succ])
          refine wpAnyH_ready (rs := [7]) (by kernel_rfl) (by simp) ?_
          refine AllReadyH.cons rfl (fun K hK => ?_) AllReadyH.nil
          go_simp
          go_at_call 75; refine (HHAS.out _ (by exact HTAKE.out)).mono ?_; rintro e wx ⟨rfl, rfl⟩
          refine hK.out _ _ ?_ (fun hHeld => ?_)
          · ((try dsimp only); (repeat' apply And.intro); all_goals ((repeat (first | (with_reducible refine cell_drew ?_) | (with_reducible refine cell_drewN _ ?_) | ((with_reducible refine cell_alloc ?_ ?_); · first | omega | (simp; done) | (simp; omega) | assumption) | ((with_reducible refine cell_set ?_ ?_); · first | (intro e; injection e; omega) | (intro e; simp at e; done) | (intro e; simp at e; omega)))); first | assumption | (simp; done)))
          clear hK K
          (try simp only [Act.put, List.setIfInBounds_toArray, List.set_cons_zero, List.set_cons_succ])
          refine wpAnyH_done (by kernel_rfl) ?_ _
          go_wp2
          go_roundw
          case rel => exact ⟨i + 1, t, by omega, by go_num, rfl, HSK.out, (by first | exact hB.out.drew | exact hB.out)⟩
          case measure => simp [intOf]; omega
      · have him : i = m := by omega
        subst him
        have HE : Hid (t = R) := by
          have h1 := hTop.out
          rw [← HML.out] at h1
          rw [← hR.out]
          exact h1.done (by rw [HML.out]; exact hm1) (fun x hx => (HHB.out x hx).1) (by omega)
        clear hTop
        go_wp2
        go_ret
        exact ⟨ret_int HE.out, hB.out⟩
end Go.Proofs.Ytkijcpbjjbhnhaa
