/-
  Contracts: RoundsFor of the program and of the model. Conditions: none.
-/
import Derived.Test.YtcggiekhlophlaaTast
import Derived.Test.YtcggiekhlophlaaWords
import Derived.Test.YtcggiekhlophlaaReg
namespace Go.Proofs.Ytcggiekhlophlaa
open Go.RowKit
set_option linter.unusedVariables false
set_option linter.unusedSimpArgs false

theorem room_self {P T : Nat} (hP1 : 1 ≤ P) (hP : P ≤ 1000000) (hT : 1 ≤ T) : P ≤ roomN (P - 1) T := by
  have h := roomN_up (P - 1) hT
  rw [roomN_one] at h
  omega
theorem rfV_min {P T k : Nat} (hP1 : 1 ≤ P) (hP : P ≤ 1000000) (hT : 1 ≤ T) (h1 : ∀ j, j < k → roomN j T < P) (h2 : P ≤ roomN k T) : rfV P T = k := by
  refine rfV_eq ?_ h1 h2
  by_cases e : k ≤ P
  · exact e
  · have := h1 (P - 1) (by omega)
    have := room_self hP1 hP hT
    omega
theorem tfOk_sw (p t : Int) : tfOk p t = (inB p 1 1000000 && inB t 1 20) := rfl
theorem rfN_no {t r : Int} (h : tfOk t r = false) : rfN t r = 0 := by simp [rfN, h]
theorem rfN_yes {T R : Nat} (h : tfOk (T : Int) (R : Int) = true) : rfN (T : Int) (R : Int) = (rfV T R : Nat) := by simp [rfN, h]

set_option maxRecDepth 100000 in
set_option maxHeartbeats 1000000 in
theorem closure_any (P T h b0 b1 : Nat) (hh : h ≤ 1000000) (hT : T ≤ 20) (w : World) (c0 : w.cell? ⟨b0, 0, none⟩ = some (.int .i64 (P : Int))) (c1 : w.cell? ⟨b1, 0, none⟩ = some (.int .i64 (T : Int))) :
    Calls Try.prog 49 #[.int .i64 h, .pointer (some ⟨b1, 0, none⟩), .pointer (some ⟨b0, 0, none⟩)] w fun e w' => e = .returned (.bool (decide (P ≤ roomN h T))) ∧ Below w.heap.size w w' := by
  have HM := Lib.hid (fun wx => mostP_any T h hT hh wx)
  have HD := Lib.hid (show ((P : Int) ≤ ((roomN h T : Nat) : Int)) ↔ P ≤ roomN h T by omega)
  generalize roomN h T = q at *
  by_cases hpq : P ≤ q
  · have hpi : (P : Int) ≤ (q : Int) := by omega
    go_enter Try.func49, Try.ntmps49
    go_wp2
    refine wp_region_held_drew (S := (fun w' => w'.cell? ⟨b0, 0, none⟩ = some (.int .i64 (P : Int)) ∧ w'.cell? ⟨b1, 0, none⟩ = some (.int .i64 (T : Int)))) (by kernel_rfl) ?_ (fun hHeld => ?_)
    · ((try dsimp only); (repeat' apply And.intro); all_goals ((repeat (first | (with_reducible refine cell_drew ?_) | (with_reducible refine cell_drewN _ ?_) | ((with_reducible refine cell_alloc ?_ ?_); · first | omega | (simp; done) | (simp; omega) | assumption) | ((with_reducible refine cell_set ?_ ?_); · first | (intro e; injection e; omega) | (intro e; simp at e; done) | (intro e; simp at e; omega)))); first | assumption | (simp; done)))
    refine reg_on (i := 0) (d := 5) (v := ?rv1) rfl rfl (by kernel_rfl) (by kernel_rfl) (by kernel_rfl) (fun _ _ _ h => h) (by rfl) ?ry1 (by assumption) ?rr1
    case ry1 => (intro wz hSw; (try dsimp only at hSw); go_simp; try with_reducible rfl)
    (try simp only [Act.put, List.setIfInBounds_toArray, List.set_cons_zero, List.set_cons_succ])
    refine reg_on (i := 1) (d := 6) (v := ?rv2) rfl rfl (by kernel_rfl) (by kernel_rfl) (by kernel_rfl) (fun _ _ _ h => h) (by rfl) ?ry2 (by assumption) ?rr2
    case ry2 => (intro wz hSw; (try dsimp only at hSw); go_simp; try with_reducible rfl)
    (try simp only [Act.put, List.setIfInBounds_toArray, List.set_cons_zero, List.set_cons_succ])
    refine reg_on (i := 3) (d := 8) (v := ?rv3) rfl rfl (by kernel_rfl) (by kernel_rfl) (by kernel_rfl) (fun _ _ _ h => h) (by rfl) ?ry3 (by assumption) ?rr3
    case ry3 => (intro wz hSw; (try dsimp only at hSw); go_simp; try with_reducible rfl)
    (try simp only [Act.put, List.setIfInBounds_toArray, List.set_cons_zero, List.set_cons_succ])
    refine wpAnyH_ready (rs := [2]) (by kernel_rfl) (by simp) ?_
    refine AllReadyH.cons rfl (fun K hK => ?_) AllReadyH.nil
    go_simp
    go_at_call 47; refine (HM.out _).mono ?_; rintro e wx ⟨rfl, rfl⟩
    refine hK.out _ _ ?_ (fun hHeld => ?_)
    · ((try dsimp only); (repeat' apply And.intro); all_goals ((repeat (first | (with_reducible refine cell_drew ?_) | (with_reducible refine cell_drewN _ ?_) | ((with_reducible refine cell_alloc ?_ ?_); · first | omega | (simp; done) | (simp; omega) | assumption) | ((with_reducible refine cell_set ?_ ?_); · first | (intro e; injection e; omega) | (intro e; simp at e; done) | (intro e; simp at e; omega)))); first | assumption | (simp; done)))
    clear hK K
    (try simp only [Act.put, List.setIfInBounds_toArray, List.set_cons_zero, List.set_cons_succ])
    refine reg_on (i := 4) (d := 9) (v := ?rv5) rfl rfl (by kernel_rfl) (by kernel_rfl) (by kernel_rfl) (fun _ _ _ h => h) (by rfl) ?ry5 (by assumption) ?rr5
    case ry5 => (intro wz hSw; (try dsimp only at hSw); go_simp; try with_reducible rfl)
    (try simp only [Act.put, List.setIfInBounds_toArray, List.set_cons_zero, List.set_cons_succ])
    refine reg_on (i := 5) (d := 4) (v := ?rv6) rfl rfl (by kernel_rfl) (by kernel_rfl) (by kernel_rfl) (fun _ _ _ h => h) (by rfl) ?ry6 (by assumption) ?rr6
    case ry6 => (intro wz hSw; (try dsimp only at hSw); go_simp; try with_reducible rfl)
    (try simp only [Act.put, List.setIfInBounds_toArray, List.set_cons_zero, List.set_cons_succ])
    refine wpAnyH_done (by kernel_rfl) ?_ _
    go_wp2
    go_ret
    exact ⟨ret_bool (by simp [hpq]), (Below.refl _ _).drew⟩
  · have hpi : ¬ (P : Int) ≤ (q : Int) := by omega
    go_enter Try.func49, Try.ntmps49
    go_wp2
    refine wp_region_held_drew (S := (fun w' => w'.cell? ⟨b0, 0, none⟩ = some (.int .i64 (P : Int)) ∧ w'.cell? ⟨b1, 0, none⟩ = some (.int .i64 (T : Int)))) (by kernel_rfl) ?_ (fun hHeld => ?_)
    · ((try dsimp only); (repeat' apply And.intro); all_goals ((repeat (first | (with_reducible refine cell_drew ?_) | (with_reducible refine cell_drewN _ ?_) | ((with_reducible refine cell_alloc ?_ ?_); · first | omega | (simp; done) | (simp; omega) | assumption) | ((with_reducible refine cell_set ?_ ?_); · first | (intro e; injection e; omega) | (intro e; simp at e; done) | (intro e; simp at e; omega)))); first | assumption | (simp; done)))
    refine reg_on (i := 0) (d := 5) (v := ?rv7) rfl rfl (by kernel_rfl) (by kernel_rfl) (by kernel_rfl) (fun _ _ _ h => h) (by rfl) ?ry7 (by assumption) ?rr7
    case ry7 => (intro wz hSw; (try dsimp only at hSw); go_simp; try with_reducible rfl)
    (try simp only [Act.put, List.setIfInBounds_toArray, List.set_cons_zero, List.set_cons_succ])
    refine reg_on (i := 1) (d := 6) (v := ?rv8) rfl rfl (by kernel_rfl) (by kernel_rfl) (by kernel_rfl) (fun _ _ _ h => h) (by rfl) ?ry8 (by assumption) ?rr8
    case ry8 => (intro wz hSw; (try dsimp only at hSw); go_simp; try with_reducible rfl)
    (try simp only [Act.put, List.setIfInBounds_toArray, List.set_cons_zero, List.set_cons_succ])
    refine reg_on (i := 3) (d := 8) (v := ?rv9) rfl rfl (by kernel_rfl) (by kernel_rfl) (by kernel_rfl) (fun _ _ _ h => h) (by rfl) ?ry9 (by assumption) ?rr9
    case ry9 => (intro wz hSw; (try dsimp only at hSw); go_simp; try with_reducible rfl)
    (try simp only [Act.put, List.setIfInBounds_toArray, List.set_cons_zero, List.set_cons_succ])
    refine wpAnyH_ready (rs := [2]) (by kernel_rfl) (by simp) ?_
    refine AllReadyH.cons rfl (fun K hK => ?_) AllReadyH.nil
    go_simp
    go_at_call 47; refine (HM.out _).mono ?_; rintro e wx ⟨rfl, rfl⟩
    refine hK.out _ _ ?_ (fun hHeld => ?_)
    · ((try dsimp only); (repeat' apply And.intro); all_goals ((repeat (first | (with_reducible refine cell_drew ?_) | (with_reducible refine cell_drewN _ ?_) | ((with_reducible refine cell_alloc ?_ ?_); · first | omega | (simp; done) | (simp; omega) | assumption) | ((with_reducible refine cell_set ?_ ?_); · first | (intro e; injection e; omega) | (intro e; simp at e; done) | (intro e; simp at e; omega)))); first | assumption | (simp; done)))
    clear hK K
    (try simp only [Act.put, List.setIfInBounds_toArray, List.set_cons_zero, List.set_cons_succ])
    refine reg_on (i := 4) (d := 9) (v := ?rv11) rfl rfl (by kernel_rfl) (by kernel_rfl) (by kernel_rfl) (fun _ _ _ h => h) (by rfl) ?ry11 (by assumption) ?rr11
    case ry11 => (intro wz hSw; (try dsimp only at hSw); go_simp; try with_reducible rfl)
    (try simp only [Act.put, List.setIfInBounds_toArray, List.set_cons_zero, List.set_cons_succ])
    refine reg_on (i := 5) (d := 4) (v := ?rv12) rfl rfl (by kernel_rfl) (by kernel_rfl) (by kernel_rfl) (fun _ _ _ h => h) (by rfl) ?ry12 (by assumption) ?rr12
    case ry12 => (intro wz hSw; (try dsimp only at hSw); go_simp; try with_reducible rfl)
    (try simp only [Act.put, List.setIfInBounds_toArray, List.set_cons_zero, List.set_cons_succ])
    refine wpAnyH_done (by kernel_rfl) ?_ _
    go_wp2
    go_ret
    exact ⟨ret_bool (by simp [hpq]), (Below.refl _ _).drew⟩

set_option maxRecDepth 100000 in
set_option maxHeartbeats 2000000 in
theorem search_any (P T b0 b1 : Nat) (hP1 : 1 ≤ P) (hP : P ≤ 1000000) (hT1 : 1 ≤ T) (hT : T ≤ 20) (w : World) (l0 : b0 < w.heap.size) (l1 : b1 < w.heap.size) (c0 : w.cell? ⟨b0, 0, none⟩ = some (.int .i64 (P : Int))) (c1 : w.cell? ⟨b1, 0, none⟩ = some (.int .i64 (T : Int))) :
    Calls Try.prog 48 #[.int .i64 ((P : Int) - 1), .func (.func 49) #[] #[.pointer (some ⟨b1, 0, none⟩), .pointer (some ⟨b0, 0, none⟩)]] w fun e w' => e = .returned (.int .i64 (rfV P T : Nat)) ∧ Below w.heap.size w w' := by
  have HRS := Lib.hid (room_self hP1 hP hT1)
  have HV := Lib.hid (fun k h1 h2 => rfV_min (k := k) hP1 hP hT1 h1 h2)
  have hPi : (P : Int) ≤ 1000000 := by omega
  clear hP
  go_enter Try.func48, Try.ntmps48
  go_wp2
  go_loopw [5, 6] (fun i j wr => ∃ lo hi : Nat, i = .int .i64 (lo : Int) ∧ j = .int .i64 (hi : Int) ∧ lo ≤ hi ∧ (hi : Int) ≤ (P : Int) - 1 ∧ Hid (∀ t, t < lo → roomN t T < P) ∧ Hid (P ≤ roomN hi T) ∧ Below w.heap.size w wr) (fun i j _ => ((intOf j).toNat - (intOf i).toNat))
  case atStart => exact ⟨0, P - 1, rfl, by congr 1; omega, by omega, by omega, fun t ht => by omega, HRS.out, Below.refl _ _⟩
  case round =>
    obtain ⟨lo, hi, rfl, rfl, hlh, hhi, hL, hH, hB⟩ := hrel
    have sB := hB.size
    by_cases hlt : lo < hi
    · obtain ⟨m, hm⟩ : ∃ m : Nat, m = (lo + hi) / 2 := ⟨_, rfl⟩
      have hm1 : ((lo : Int) + (hi : Int)) / 2 = (m : Int) := by omega
      have hmlo : lo ≤ m := by omega
      have hmhi : m < hi := by omega
      have HC := Lib.hid (closure_any P T m b0 b1 (by omega) hT wr ((hB.cell (p := ⟨b0, 0, none⟩) l0).trans c0) ((hB.cell (p := ⟨b1, 0, none⟩) l1).trans c1))
      clear hm
      by_cases hp : P ≤ roomN m T
      · have hd : decide (P ≤ roomN m T) = true := by simp [hp]
        rw [hd] at HC
        have HP := Lib.hid hp
        clear hp hd
        go_wp2_with fail
        refine HC.out.mono ?_; rintro e w2 ⟨rfl, hb2⟩
        go_wp2
        go_roundw
        case rel => exact ⟨lo, m, rfl, by (first | rw [hm1] | rfl), hmlo, by omega, hL, HP, hB.trans (hb2.mono sB)⟩
        case measure => simp [intOf]; omega
      · have hd : decide (P ≤ roomN m T) = false := by simp [hp]
        rw [hd] at HC
        have HP : Hid (∀ t, t < m + 1 → roomN t T < P) := fun t ht => by
          have := roomN_upR T (show t ≤ m by omega)
          omega
        clear hp hd
        go_wp2_with fail
        refine HC.out.mono ?_; rintro e w2 ⟨rfl, hb2⟩
        go_wp2
        go_roundw
        case rel => exact ⟨m + 1, hi, by (try rw [hm1]); go_num, rfl, by omega, hhi, HP, hH, hB.trans (hb2.mono sB)⟩
        case measure => simp [intOf]; omega
    · have hlh2 : lo = hi := by omega
      have HE : Hid (rfV P T = lo) := HV.out lo hL.out (by rw [hlh2]; exact hH.out)
      have hli : ¬ (lo : Int) < (hi : Int) := by omega
      clear hlh2 hlt
      go_wp2
      go_ret
      exact ⟨ret_int (by rw [HE.out]), hB⟩
end Go.Proofs.Ytcggiekhlophlaa
