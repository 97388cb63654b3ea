/-
  Contracts: CheapestToEat of the model.
-/
import Derived.Test.YtobncknlipeinaaLstS
namespace Go.Proofs.Ytobncknlipeinaa
open Go.RowKit Go.Maps
set_option linter.unusedVariables false
set_option linter.unusedSimpArgs false

/-- the first of the least numbers of F from 1 below n -/
def FirstLeast (F : Nat → Int) (n k : Nat) : Prop := 1 ≤ k ∧ k < n ∧ (∀ j, 1 ≤ j → j < n → F k ≤ F j) ∧ ∀ j, 1 ≤ j → j < k → F k < F j
theorem FirstLeast.one (F : Nat → Int) : FirstLeast F 2 1 := ⟨by omega, by omega, fun j h1 h2 => by rw [show j = 1 by omega]; omega, fun j h1 h2 => by omega⟩
theorem FirstLeast.yes {F : Nat → Int} {n k : Nat} (h : FirstLeast F n k) (hl : F n < F k) : FirstLeast F (n + 1) n :=
  ⟨by have := h.1; have := h.2.1; omega, by omega, fun j h1 h2 => by
    by_cases e : j = n
    · subst e; omega
    · have := h.2.2.1 j h1 (by omega); omega, fun j h1 h2 => by have := h.2.2.1 j h1 h2; omega⟩
theorem FirstLeast.no {F : Nat → Int} {n k : Nat} (h : FirstLeast F n k) (hl : ¬ F n < F k) : FirstLeast F (n + 1) k :=
  ⟨h.1, by have := h.2.1; omega, fun j h1 h2 => by
    by_cases e : j = n
    · subst e; omega
    · exact h.2.2.1 j h1 (by omega), h.2.2.2⟩
theorem FirstLeast.same {F G : Nat → Int} {n k l : Nat} (h : FirstLeast F n k) (h' : FirstLeast G n l) (e : ∀ j, 1 ≤ j → j < n → F j = G j) : k = l := by
  obtain ⟨a1, a2, a3, a4⟩ := h
  obtain ⟨b1, b2, b3, b4⟩ := h'
  rcases Nat.lt_trichotomy k l with q | q | q
  · have h1 := b4 k a1 q
    have h2 := a3 l b1 b2
    rw [e k a1 a2, e l b1 b2] at h2
    omega
  · exact q
  · have h1 := a4 l b1 q
    have h2 := b3 k a1 a2
    rw [← e k a1 a2, ← e l b1 b2] at h2
    omega
/-- behind the first j numbers -/
def ChSt (F : Nat → Int) (N j b : Nat) (l : Int) : Prop := (j ≤ 1 ∧ b = 0 ∧ l = -1) ∨ (2 ≤ j ∧ FirstLeast F (min j N) b ∧ l = F b)

set_option maxRecDepth 100000 in
set_option maxHeartbeats 4000000 in
theorem sCheapest_yes (x y : Nat) (w : World) (hx1 : 1 ≤ x) (hx2 : x ≤ 12) (hy1 : 1 ≤ y) (hy2 : y ≤ 12) (h11 : ¬ (x = 1 ∧ y = 1)) :
    Calls Try.prog 13 #[bar2 x y] w fun e w' => ∃ (M : C3) (k : Nat), RecM M x y ∧ FirstLeast (M x y) (x * y) k ∧ e = .returned (.tuple #[.int .i64 k, .int .i64 (M x y k), .bool true]) ∧ Below w.heap.size w w' := by
  have hbar : barB (x : Int) (y : Int) = true := by simp [barB]; omega
  have HG : Hid (∀ wx, Calls Try.prog 33 #[bar2 x y] wx fun e w' => e = .returned (.bool true) ∧ Below wx.heap.size wx w') := fun wx => by have h := brGood_any (x : Int) (y : Int) wx; rwa [hbar] at h
  have HBE := Lib.hid (fun wx => brEat_any x y wx hx1 hx2 hy1 hy2)
  have z1 : (x : Int) < (x : Int) + 1 := by omega
  have z2 : (y : Int) < (y : Int) + 1 := by omega
  obtain ⟨N, hN⟩ : ∃ N, Hid (N = x * y) := ⟨_, rfl⟩
  have hN144 : N ≤ 144 := by rw [hN.out]; exact Nat.le_trans (Nat.mul_le_mul hx2 hy2) (by omega)
  have hN2 : 2 ≤ N := by
    rw [hN.out]
    rcases (show 2 ≤ x ∨ 2 ≤ y by omega) with h | h
    · exact Nat.le_trans (show 2 ≤ 2 * 1 by omega) (Nat.mul_le_mul h hy1)
    · exact Nat.le_trans (show 2 ≤ 1 * 2 by omega) (Nat.mul_le_mul hx1 h)
  have hNi : (x : Int) * (y : Int) = (N : Int) := by rw [hN.out]; exact (Int.natCast_mul x y).symm
  have wN : IntKind.i64.wrap ((x : Int) * (y : Int)) = (N : Int) := by rw [hNi]; exact IntWalk.i64_in _ ⟨by omega, by omega⟩
  have wN1 : ((N : Int) == 1) = false := by simp; omega
  have HV : Hid (∀ (wx we : World) (M : C3) (tab : List Value), TabSt wx we x y (x + 1) M tab → ∃ ga ra, we.cell? ⟨wx.heap.size + 1, x, none⟩ = some (.slice (some ⟨ga, 0, none⟩) (y + 1) (y + 1)) ∧ we.cell? ⟨ga, y, none⟩ = some (.slice (some ⟨ra, 0, none⟩) (N + 1) (N + 1)) ∧ Hid (∀ s, s ≤ N → we.cell? ⟨ra, s, none⟩ = some (.int .i64 (M x y s))) ∧ Hid (∀ s, s ≤ N → 0 ≤ M x y s ∧ M x y s ≤ 100000)) := by
    intro wx we M tab h
    obtain ⟨ga, _, _, c, d⟩ := h.tb x hx1 (by omega)
    obtain ⟨ra, _, _, c2, d2⟩ := d y hy1 (by omega)
    rw [← hN.out] at c2 d2
    refine ⟨ga, ra, c, c2, d2, fun s hs => ?_⟩
    have q := eat_le h.dn.solves hx2 hy2 (x + y) x y s (Nat.le_refl _) hx1 (Nat.le_refl _) hy1 (Nat.le_refl _) (by rw [← hN.out]; exact hs)
    rw [← hN.out] at q
    omega
  clear hbar h11
  go_enter Try.func13, Try.ntmps13
  go_wp2_with fail
  refine (HG.out _).mono ?_; rintro e w1 ⟨rfl, hb1⟩; have s1 := hb1.size; obtain ⟨hc1, hf1⟩ := bcell hb1; have z1_w0 : w.heap.size < w1.heap.size := (by have q := s1; first | omega | (simp at q; omega))
  have c0 : w1.cell? ⟨w.heap.size, 0, none⟩ = some (.int .i64 (x : Int)) := by rw [hc1 _ _ (by simp)]; simp [go_sem]
  have c1 : w1.cell? ⟨w.heap.size, 1, none⟩ = some (.int .i64 (y : Int)) := by rw [hc1 _ _ (by simp)]; simp [go_sem]
  have bw1 : Below w.heap.size w w1 := by (repeat (first | (with_reducible exact Below.refl _ _) | (with_reducible assumption) | (with_reducible refine Below.drew ?_) | ((with_reducible refine balloc ?_ _ ?_); · (first | (simp; done) | (simp; omega) | omega)) | ((with_reducible refine bset ?_ _ ?_); · (first | (simp; done) | (simp; omega) | omega)) | (with_reducible refine bdrewN _ ?_) | ((with_reducible refine bcall ?_ (by assumption) ?_); · (first | (simp; done) | (simp; omega) | omega))))
  have BW1 := Lib.hid bw1
  clear hc1 hf1 hb1 bw1
  go_wp2
  refine wp_region_held_drew (S := (fun w' => w'.cell? ⟨w.heap.size, 0, none⟩ = some (.int .i64 (x : Int)) ∧ w'.cell? ⟨w.heap.size, 1, none⟩ = some (.int .i64 (y : Int)))) (by kernel_rfl) ?_ (fun hHeld => ?_)
  · ((try dsimp only); (repeat' apply And.intro); all_goals ((repeat (first | (with_reducible refine cell_drew ?_) | (with_reducible refine cell_drewN _ ?_) | ((with_reducible refine cell_alloc ?_ ?_); · first | omega | (simp; done) | (simp; omega) | assumption) | ((with_reducible refine cell_set ?_ ?_); · first | (intro e; injection e; omega) | (intro e; simp at e; done) | (intro e; simp at e; omega)))); first | assumption | (simp; done)))
  refine reg_on (i := 0) (d := 20) (v := ?rv1) rfl rfl (by kernel_rfl) (by kernel_rfl) (by kernel_rfl) (fun _ _ _ h => h) (by rfl) ?ry1 (by assumption) ?rr1
  case ry1 => (intro wz hSw; (try dsimp only at hSw); go_simp; try with_reducible rfl)
  (try simp only [Act.put, List.setIfInBounds_toArray, List.set_cons_zero, List.set_cons_succ])
  refine reg_on (i := 2) (d := 22) (v := ?rv2) rfl rfl (by kernel_rfl) (by kernel_rfl) (by kernel_rfl) (fun _ _ _ h => h) (by rfl) ?ry2 (by assumption) ?rr2
  case ry2 => (intro wz hSw; (try dsimp only at hSw); go_simp; try with_reducible rfl)
  (try simp only [Act.put, List.setIfInBounds_toArray, List.set_cons_zero, List.set_cons_succ])
  refine reg_on (i := 3) (d := 23) (v := ?rv3) rfl rfl (by kernel_rfl) (by kernel_rfl) (by kernel_rfl) (fun _ _ _ h => h) (by rfl) ?ry3 (by assumption) ?rr3
  case ry3 => (intro wz hSw; (try dsimp only at hSw); go_simp; try with_reducible rfl)
  (try simp only [Act.put, List.setIfInBounds_toArray, List.set_cons_zero, List.set_cons_succ])
  refine reg_on (i := 6) (d := 26) (v := ?rv4) rfl rfl (by kernel_rfl) (by kernel_rfl) (by kernel_rfl) (fun _ _ _ h => h) (by rfl) ?ry4 (by assumption) ?rr4
  case ry4 => (intro wz hSw; (try dsimp only at hSw); go_simp; try with_reducible rfl)
  (try simp only [Act.put, List.setIfInBounds_toArray, List.set_cons_zero, List.set_cons_succ])
  refine reg_on (i := 7) (d := 27) (v := ?rv5) rfl rfl (by kernel_rfl) (by kernel_rfl) (by kernel_rfl) (fun _ _ _ h => h) (by rfl) ?ry5 (by assumption) ?rr5
  case ry5 => (intro wz hSw; (try dsimp only at hSw); go_simp; try with_reducible rfl)
  (try simp only [Act.put, List.setIfInBounds_toArray, List.set_cons_zero, List.set_cons_succ])
  refine reg_on (i := 11) (d := 31) (v := ?rv6) rfl rfl (by kernel_rfl) (by kernel_rfl) (by kernel_rfl) (fun _ _ _ h => h) (by rfl) ?ry6 (by assumption) ?rr6
  case ry6 => (intro wz hSw; (try dsimp only at hSw); go_simp; try with_reducible rfl)
  (try simp only [Act.put, List.setIfInBounds_toArray, List.set_cons_zero, List.set_cons_succ])
  refine wpAnyH_ready (rs := [1]) (by kernel_rfl) (by simp) ?_
  refine AllReadyH.cons rfl (fun K hK => ?_) AllReadyH.nil
  go_simp
  go_at_call 25; refine (HBE.out _).mono ?_; rintro e we ⟨M, tab, rfl, hTS⟩; obtain ⟨ga, ra, t1, t2, t3, t4⟩ := HV.out _ _ M tab hTS; have t1b : we.cell? ⟨w1.heap.size + 1, x, none⟩ = some (.slice (some ⟨ga, 0, none⟩) (y + 1) (y + 1)) := t1; have hbe := hTS.bl; have se := hbe.size; (try simp at se); have k0 : we.cell? ⟨w.heap.size, 0, none⟩ = some (.int .i64 (x : Int)) := (hbe.cell (p := ⟨w.heap.size, 0, none⟩) (by show w.heap.size < _; simp; omega)).trans (by assumption); have k1 : we.cell? ⟨w.heap.size, 1, none⟩ = some (.int .i64 (y : Int)) := (hbe.cell (p := ⟨w.heap.size, 1, none⟩) (by show w.heap.size < _; simp; omega)).trans (by assumption)
  refine hK.out _ _ ?_ (fun hHeld => ?_)
  · ((try dsimp only); (repeat' apply And.intro); all_goals ((repeat (first | (with_reducible refine cell_drew ?_) | (with_reducible refine cell_drewN _ ?_) | ((with_reducible refine cell_alloc ?_ ?_); · first | omega | (simp; done) | (simp; omega) | assumption) | ((with_reducible refine cell_set ?_ ?_); · first | (intro e; injection e; omega) | (intro e; simp at e; done) | (intro e; simp at e; omega)))); first | assumption | (simp; done)))
  clear hK K
  (try simp only [Act.put, List.setIfInBounds_toArray, List.set_cons_zero, List.set_cons_succ])
  refine reg_on (i := 4) (d := 24) (v := ?rv8) rfl rfl (by kernel_rfl) (by kernel_rfl) (by kernel_rfl) (fun _ _ _ h => h) (by rfl) ?ry8 (by assumption) ?rr8
  case ry8 => (intro wz hSw; (try dsimp only at hSw); go_simp; try with_reducible rfl)
  (try simp only [Act.put, List.setIfInBounds_toArray, List.set_cons_zero, List.set_cons_succ])
  refine wpAnyH_ready (rs := [5]) (by kernel_rfl) (by simp) ?_
  refine AllReadyH.cons rfl (fun K hK => ?_) AllReadyH.nil
  go_simp
  refine hK.out _ _ ?_ (fun hHeld => ?_)
  · ((try dsimp only); (repeat' apply And.intro); all_goals ((repeat (first | (with_reducible refine cell_drew ?_) | (with_reducible refine cell_drewN _ ?_) | ((with_reducible refine cell_alloc ?_ ?_); · first | omega | (simp; done) | (simp; omega) | assumption) | ((with_reducible refine cell_set ?_ ?_); · first | (intro e; injection e; omega) | (intro e; simp at e; done) | (intro e; simp at e; omega)))); first | assumption | (simp; done)))
  clear hK K
  (try simp only [Act.put, List.setIfInBounds_toArray, List.set_cons_zero, List.set_cons_succ])
  refine reg_on (i := 8) (d := 28) (v := ?rv10) rfl rfl (by kernel_rfl) (by kernel_rfl) (by kernel_rfl) (fun _ _ _ h => h) (by rfl) ?ry10 (by assumption) ?rr10
  case ry10 => (intro wz hSw; (try dsimp only at hSw); go_simp; try with_reducible rfl)
  (try simp only [Act.put, List.setIfInBounds_toArray, List.set_cons_zero, List.set_cons_succ])
  refine wpAnyH_ready (rs := [9]) (by kernel_rfl) (by simp) ?_
  refine AllReadyH.cons rfl (fun K hK => ?_) AllReadyH.nil
  go_simp
  refine hK.out _ _ ?_ (fun hHeld => ?_)
  · ((try dsimp only); (repeat' apply And.intro); all_goals ((repeat (first | (with_reducible refine cell_drew ?_) | (with_reducible refine cell_drewN _ ?_) | ((with_reducible refine cell_alloc ?_ ?_); · first | omega | (simp; done) | (simp; omega) | assumption) | ((with_reducible refine cell_set ?_ ?_); · first | (intro e; injection e; omega) | (intro e; simp at e; done) | (intro e; simp at e; omega)))); first | assumption | (simp; done)))
  clear hK K
  (try simp only [Act.put, List.setIfInBounds_toArray, List.set_cons_zero, List.set_cons_succ])
  refine reg_on (i := 10) (d := 30) (v := ?rv12) rfl rfl (by kernel_rfl) (by kernel_rfl) (by kernel_rfl) (fun _ _ _ h => h) (by rfl) ?ry12 (by assumption) ?rr12
  case ry12 => (intro wz hSw; (try dsimp only at hSw); go_simp; try with_reducible rfl)
  (try simp only [Act.put, List.setIfInBounds_toArray, List.set_cons_zero, List.set_cons_succ])
  refine wpAnyH_done (by kernel_rfl) ?_ _
  have hRM := Lib.hid hTS.dn.solves
  have HBE2 := Lib.hid (BW1.out.drew.trans (hbe.mono (by simp; omega)))
  clear hTS hbe t1 t1b t2 HV HBE
  obtain ⟨F, hF⟩ : ∃ F, Hid (F = M x y) := ⟨_, rfl⟩
  have T3 : Hid (∀ s, s ≤ N → we.cell? ⟨ra, s, none⟩ = some (.int .i64 (F s))) := by rw [hF.out]; exact t3
  have T4 : Hid (∀ s, s ≤ N → 0 ≤ F s ∧ F s ≤ 100000) := by rw [hF.out]; exact t4
  clear t3 t4
  go_wp2
  go_loop [5, 6, 31] (fun bv lv i => ∃ (j b : Nat) (l : Int), j ≤ N + 1 ∧ b ≤ N ∧ -1 ≤ l ∧ l ≤ 100000 ∧ i = .int .i64 j ∧ bv = .int .i64 b ∧ lv = .int .i64 l ∧ Hid (ChSt F N j b l)) (fun _ _ i => N + 1 - (intOf i).toNat)
  case atStart => exact ⟨0, 0, -1, by omega, by omega, by omega, by omega, rfl, rfl, rfl, .inl ⟨by omega, rfl, rfl⟩⟩
  case round =>
    obtain ⟨j, b, l, hj, hbN, hl1, hl2, rfl, rfl, rfl, hst⟩ := hrel
    by_cases hlt : j < N + 1
    · have hlti : (j : Int) < (N : Int) + 1 := by omega
      have v0 := T3.out j (by omega)
      obtain ⟨v1, v2⟩ := T4.out j (by omega)
      by_cases hj0 : j = 0
      · have hn : Hid (ChSt F N (j + 1) b l) := by
          rcases hst.out with ⟨h1, h2, h3⟩ | ⟨h1, _⟩
          · exact .inl ⟨by omega, h2, h3⟩
          · omega
        subst hj0
        clear hst T3 T4
        generalize F 0 = fj at *
        go_wp2
        go_round
        case rel => exact ⟨1, b, l, by omega, hbN, hl1, hl2, by go_num, rfl, rfl, hn⟩
        case measure => simp [intOf]
      · have g1 : (0 : Int) < (j : Int) := by omega
        by_cases hjN : j < N
        · have g2 : (j : Int) < (N : Int) := by omega
          by_cases hl : l < 0 ∨ F j < l
          · have hn : Hid (ChSt F N (j + 1) j (F j)) := by
              refine .inr ⟨by omega, ?_, rfl⟩
              rw [show min (j + 1) N = j + 1 by omega]
              rcases hst.out with ⟨h1, h2, h3⟩ | ⟨h1, h2, h3⟩
              · rw [show j = 1 by omega]; exact FirstLeast.one F
              · rw [show min j N = j by omega] at h2
                have := (T4.out b hbN).1
                exact h2.yes (by rw [← h3]; omega)
            clear hst T3 T4
            generalize F j = fj at *
            by_cases hl0 : l < 0
            · go_wp2
              go_round
              case rel => exact ⟨j + 1, j, fj, by omega, by omega, by omega, by omega, by go_num, rfl, rfl, hn⟩
              case measure => simp [intOf]; omega
            · have hl3 : fj < l := by omega
              clear hl
              go_wp2
              go_round
              case rel => exact ⟨j + 1, j, fj, by omega, by omega, by omega, by omega, by go_num, rfl, rfl, hn⟩
              case measure => simp [intOf]; omega
          · have hn : Hid (ChSt F N (j + 1) b l) := by
              rcases hst.out with ⟨h1, h2, h3⟩ | ⟨h1, h2, h3⟩
              · omega
              · refine .inr ⟨by omega, ?_, h3⟩
                rw [show min j N = j by omega] at h2
                rw [show min (j + 1) N = j + 1 by omega]
                exact h2.no (by rw [← h3]; omega)
            clear hst T3 T4
            generalize F j = fj at *
            have hl0 : ¬ l < 0 := by omega
            have hl3 : ¬ fj < l := by omega
            clear hl
            go_wp2
            go_round
            case rel => exact ⟨j + 1, b, l, by omega, hbN, hl1, hl2, by go_num, rfl, rfl, hn⟩
            case measure => simp [intOf]; omega
        · have g2 : ¬ (j : Int) < (N : Int) := by omega
          have hn : Hid (ChSt F N (j + 1) b l) := by
            rcases hst.out with ⟨h1, h2, h3⟩ | ⟨h1, h2, h3⟩
            · omega
            · refine .inr ⟨by omega, ?_, h3⟩
              rw [show min (j + 1) N = min j N by omega]
              exact h2
          clear hst T3 T4
          generalize F j = fj at *
          go_wp2
          go_round
          case rel => exact ⟨j + 1, b, l, by omega, hbN, hl1, hl2, by go_num, rfl, rfl, hn⟩
          case measure => simp [intOf]; omega
    · have hje : j = N + 1 := by omega
      have hnlt : ¬ (j : Int) < (N : Int) + 1 := by omega
      have hfin : FirstLeast F N b ∧ l = F b := by
        rcases hst.out with ⟨h1, _⟩ | ⟨h1, h2, h3⟩
        · omega
        · rw [show min j N = N by omega] at h2
          exact ⟨h2, h3⟩
      have HFIN := Lib.hid hfin
      clear hfin hst T3 T4
      go_wp2
      go_ret3
      have e1 := HFIN.out.1
      have e2 := HFIN.out.2
      rw [hF.out] at e1 e2
      rw [hN.out] at e1
      exact ⟨M, hRM.out, b, e1, by rw [e2]; rfl, HBE2.out⟩

set_option maxRecDepth 100000 in
set_option maxHeartbeats 1000000 in
theorem sCheapest_no (x y : Int) (w : World) (h : barB x y = false ∨ (x = 1 ∧ y = 1)) :
    Calls Try.prog 13 #[bar2 x y] w fun e w' => e = .returned (.tuple #[.int .i64 0, .int .i64 0, .bool false]) ∧ Below w.heap.size w w' := by
  have HG : Hid (∀ wx, Calls Try.prog 33 #[bar2 x y] wx fun e w' => e = .returned (.bool (barB x y)) ∧ Below wx.heap.size wx w') := fun wx => brGood_any x y wx
  by_cases hb : barB x y = false
  · rw [hb] at HG
    clear h
    go_enter Try.func13, Try.ntmps13
    go_wp2_with fail
    refine (HG.out _).mono ?_; rintro e w1 ⟨rfl, hb1⟩; have s1 := hb1.size; obtain ⟨hc1, hf1⟩ := bcell hb1; have z1_w0 : w.heap.size < w1.heap.size := (by have q := s1; first | omega | (simp at q; omega))
    have bw1 : Below w.heap.size w w1 := by (repeat (first | (with_reducible exact Below.refl _ _) | (with_reducible assumption) | (with_reducible refine Below.drew ?_) | ((with_reducible refine balloc ?_ _ ?_); · (first | (simp; done) | (simp; omega) | omega)) | ((with_reducible refine bset ?_ _ ?_); · (first | (simp; done) | (simp; omega) | omega)) | (with_reducible refine bdrewN _ ?_) | ((with_reducible refine bcall ?_ (by assumption) ?_); · (first | (simp; done) | (simp; omega) | omega))))
    clear hc1 hf1 hb1
    go_wp2
    go_ret3
    exact ⟨rfl, bw1⟩
  · obtain ⟨rfl, rfl⟩ : x = 1 ∧ y = 1 := by
      rcases h with h | h
      · exact absurd h hb
      · exact h
    rw [show barB 1 1 = true from rfl] at HG
    clear h hb
    go_enter Try.func13, Try.ntmps13
    go_wp2_with fail
    refine (HG.out _).mono ?_; rintro e w1 ⟨rfl, hb1⟩; have s1 := hb1.size; obtain ⟨hc1, hf1⟩ := bcell hb1; have z1_w0 : w.heap.size < w1.heap.size := (by have q := s1; first | omega | (simp at q; omega))
    have c0 : w1.cell? ⟨w.heap.size, 0, none⟩ = some (.int .i64 1) := by rw [hc1 _ _ (by simp)]; simp [go_sem]
    have c1 : w1.cell? ⟨w.heap.size, 1, none⟩ = some (.int .i64 1) := by rw [hc1 _ _ (by simp)]; simp [go_sem]
    have bw1 : Below w.heap.size w w1 := by (repeat (first | (with_reducible exact Below.refl _ _) | (with_reducible assumption) | (with_reducible refine Below.drew ?_) | ((with_reducible refine balloc ?_ _ ?_); · (first | (simp; done) | (simp; omega) | omega)) | ((with_reducible refine bset ?_ _ ?_); · (first | (simp; done) | (simp; omega) | omega)) | (with_reducible refine bdrewN _ ?_) | ((with_reducible refine bcall ?_ (by assumption) ?_); · (first | (simp; done) | (simp; omega) | omega))))
    clear hc1 hf1 hb1
    go_wp2
    go_ret3
    exact ⟨rfl, bw1⟩

end Go.Proofs.Ytobncknlipeinaa
