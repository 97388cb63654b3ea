/-
  Contracts: small functions about costs to eat, of the model.
-/
import Derived.Test.YtobncknlipeinaaEatW
import Derived.Test.YtobncknlipeinaaMinMax
import Derived.Test.YtobncknlipeinaaStrs
import Derived.Test.YtobncknlipeinaaReg
import Derived.StillTailTactics
namespace Go.Proofs.Ytobncknlipeinaa
open Go.RowKit
set_option linter.unusedVariables false

set_option maxHeartbeats 1000000 in
theorem brLess_any (a b : Int) (w : World) : Calls Try.prog 42 #[.int .i64 a, .int .i64 b] w fun e w' => e = .returned (.int .i64 (lessI a b)) ∧ w = w' := by
  by_cases h1 : a < 0
  · have e : lessI a b = b := if_pos (.inl h1)
    rw [e]; clear e
    have hd : decide (a < 0) = true := by simpa using h1
    go_enter Try.func42, Try.ntmps42
    go_wp2
    go_ret
    exact ⟨rfl, rfl⟩
  · have hd : decide (a < 0) = false := by simpa using h1
    by_cases h2 : b < a
    · have e : lessI a b = b := if_pos (.inr h2)
      rw [e]; clear e
      have hd2 : decide (b < a) = true := by simpa using h2
      go_enter Try.func42, Try.ntmps42
      go_wp2
      go_ret
      exact ⟨rfl, rfl⟩
    · have e : lessI a b = a := if_neg (by omega)
      rw [e]; clear e
      have hd2 : decide (b < a) = false := by simpa using h2
      go_enter Try.func42, Try.ntmps42
      go_wp2
      go_ret
      exact ⟨rfl, rfl⟩
def longI (x y : Int) (d : Bool) : Int := if d then y else x
set_option maxHeartbeats 1000000 in
theorem brLong_any (x y : Int) (d : Bool) (w : World) : Calls Try.prog 45 #[bar2 x y, .bool d] w fun e w' => e = .returned (.int .i64 (longI x y d)) ∧ Below w.heap.size w w' := by
  cases d
  all_goals
    go_enter Try.func45, Try.ntmps45
    go_wp2
    go_ret
    exact ⟨rfl, by (repeat (first | (with_reducible exact Below.refl _ _) | (with_reducible assumption) | (with_reducible refine Below.drew ?_) | ((with_reducible refine balloc ?_ _ ?_); · (first | (simp; done) | (simp; omega) | omega)) | ((with_reducible refine bset ?_ _ ?_); · (first | (simp; done) | (simp; omega) | omega)) | (with_reducible refine bdrewN _ ?_) | ((with_reducible refine bcall ?_ (by assumption) ?_); · (first | (simp; done) | (simp; omega) | omega))))⟩

set_option maxRecDepth 100000 in
set_option maxHeartbeats 2000000 in
theorem brPrice_any (x y : Nat) (d : Bool) (w : World) (hx : x ≤ 12) (hy : y ≤ 12) : Calls Try.prog 30 #[bar2 x y, .bool d] w fun e w' => e = .returned (.int .i64 ((if d then y * y else x * x : Nat) : Int)) ∧ Below w.heap.size w w' := by
  have hl : longI x y d = ((if d then y else x : Nat) : Int) := by cases d <;> rfl
  have hsq : (if d then y * y else x * x) = (if d then y else x) * (if d then y else x) := by cases d <;> rfl
  have hm12 : (if d then y else x) ≤ 12 := by cases d <;> simp [hx, hy]
  rw [hsq]
  have HL : Hid (∀ wx, Calls Try.prog 45 #[bar2 x y, .bool d] wx fun e w' => e = .returned (.int .i64 ((if d then y else x : Nat) : Int)) ∧ Below wx.heap.size wx w') := fun wx => by rw [← hl]; exact brLong_any x y d wx
  have hpb : (if d then y else x) * (if d then y else x) ≤ 12 * 12 := Nat.mul_le_mul hm12 hm12
  clear hl hsq
  generalize (if d then y else x) = m at *
  have hprod : IntKind.i64.wrap ((m : Int) * (m : Int)) = ((m * m : Nat) : Int) := by
    rw [← Int.natCast_mul]
    generalize m * m = mm at *
    exact IntWalk.i64_in _ (by omega)
  have hb0 : Below w.heap.size w (w.alloc (.cells #[.int .i64 x, .int .i64 y] 26)) := by (repeat (first | (with_reducible exact Below.refl _ _) | (with_reducible assumption) | (with_reducible refine Below.drew ?_) | ((with_reducible refine balloc ?_ _ ?_); · (first | (simp; done) | (simp; omega) | omega)) | ((with_reducible refine bset ?_ _ ?_); · (first | (simp; done) | (simp; omega) | omega)) | (with_reducible refine bdrewN _ ?_) | ((with_reducible refine bcall ?_ (by assumption) ?_); · (first | (simp; done) | (simp; omega) | omega))))
  have c0 : (w.alloc (.cells #[.int .i64 x, .int .i64 y] 26)).cell? ⟨w.heap.size, 0, none⟩ = some (.int .i64 x) := by simp [go_sem]
  have c1 : (w.alloc (.cells #[.int .i64 x, .int .i64 y] 26)).cell? ⟨w.heap.size, 1, none⟩ = some (.int .i64 y) := by simp [go_sem]
  have HB0 := Lib.hid hb0
  have HP := Lib.hid hprod
  clear hb0 hprod
  go_enter Try.func30, Try.ntmps30
  go_wp2
  have hprod := HP.out
  refine wp_region_held_drew (S := (fun w' => w'.cell? ⟨w.heap.size, 0, none⟩ = some (.int .i64 x) ∧ w'.cell? ⟨w.heap.size, 1, none⟩ = some (.int .i64 y))) (by kernel_rfl) ?_ (fun hHeld => ?_)
  · ((try dsimp only); (repeat' apply And.intro); all_goals ((repeat (first | (with_reducible refine cell_drew ?_) | (with_reducible refine cell_drewN _ ?_) | ((with_reducible refine cell_alloc ?_ ?_); · first | omega | (simp; done) | (simp; omega) | assumption) | ((with_reducible refine cell_set ?_ ?_); · first | (intro e; injection e; omega) | (intro e; simp at e; done) | (intro e; simp at e; omega)))); first | assumption | (simp; done)))
  refine reg_on (i := 0) (d := 5) (v := ?rv1) rfl rfl (by kernel_rfl) (by kernel_rfl) (by kernel_rfl) (fun _ _ _ h => h) (by rfl) ?ry1 (by assumption) ?rr1
  case ry1 => (intro wz hSw; (try dsimp only at hSw); go_simp; try with_reducible rfl)
  (try simp only [Act.put, List.setIfInBounds_toArray, List.set_cons_zero, List.set_cons_succ])
  refine reg_on (i := 1) (d := 6) (v := ?rv2) rfl rfl (by kernel_rfl) (by kernel_rfl) (by kernel_rfl) (fun _ _ _ h => h) (by rfl) ?ry2 (by assumption) ?rr2
  case ry2 => (intro wz hSw; (try dsimp only at hSw); go_simp; try with_reducible rfl)
  (try simp only [Act.put, List.setIfInBounds_toArray, List.set_cons_zero, List.set_cons_succ])
  refine reg_on (i := 3) (d := 8) (v := ?rv3) rfl rfl (by kernel_rfl) (by kernel_rfl) (by kernel_rfl) (fun _ _ _ h => h) (by rfl) ?ry3 (by assumption) ?rr3
  case ry3 => (intro wz hSw; (try dsimp only at hSw); go_simp; try with_reducible rfl)
  (try simp only [Act.put, List.setIfInBounds_toArray, List.set_cons_zero, List.set_cons_succ])
  refine reg_on (i := 4) (d := 9) (v := ?rv4) rfl rfl (by kernel_rfl) (by kernel_rfl) (by kernel_rfl) (fun _ _ _ h => h) (by rfl) ?ry4 (by assumption) ?rr4
  case ry4 => (intro wz hSw; (try dsimp only at hSw); go_simp; try with_reducible rfl)
  (try simp only [Act.put, List.setIfInBounds_toArray, List.set_cons_zero, List.set_cons_succ])
  refine wpAnyH_ready (rs := [2]) (by kernel_rfl) (by simp) ?_
  refine AllReadyH.cons rfl (fun K hK => ?_) AllReadyH.nil
  go_simp
  go_at_call 45; refine (HL.out _).mono ?_; rintro e w1 ⟨rfl, hb1⟩; have s1 := hb1.size; (try simp at s1); have z1 : w.heap.size < w1.heap.size := (by omega); have d0 : w1.cell? ⟨w.heap.size, 0, none⟩ = some (.int .i64 x) := (hb1.cell (p := ⟨w.heap.size, 0, none⟩) (by first | (simp; done) | (simp; omega) | omega)).trans (by first | assumption | (go_split_ands; assumption)); have d1 : w1.cell? ⟨w.heap.size, 1, none⟩ = some (.int .i64 y) := (hb1.cell (p := ⟨w.heap.size, 1, none⟩) (by first | (simp; done) | (simp; omega) | omega)).trans (by first | assumption | (go_split_ands; assumption))
  refine hK.out _ _ ?_ (fun hHeld => ?_)
  · ((try dsimp only); (repeat' apply And.intro); all_goals ((repeat (first | (with_reducible refine cell_drew ?_) | (with_reducible refine cell_drewN _ ?_) | ((with_reducible refine cell_alloc ?_ ?_); · first | omega | (simp; done) | (simp; omega) | assumption) | ((with_reducible refine cell_set ?_ ?_); · first | (intro e; injection e; omega) | (intro e; simp at e; done) | (intro e; simp at e; omega)))); first | assumption | (simp; done)))
  clear hK K
  (try simp only [Act.put, List.setIfInBounds_toArray, List.set_cons_zero, List.set_cons_succ])
  refine wpAnyH_ready (rs := [5]) (by kernel_rfl) (by simp) ?_
  refine AllReadyH.cons rfl (fun K hK => ?_) AllReadyH.nil
  go_simp
  go_at_call 45; refine (HL.out _).mono ?_; rintro e w2 ⟨rfl, hb2⟩; have s2 := hb2.size; have e0 : w2.cell? ⟨w.heap.size, 0, none⟩ = some (.int .i64 x) := (hb2.cell (p := ⟨w.heap.size, 0, none⟩) (by first | (simp; done) | (simp; omega) | omega)).trans (by first | assumption | (go_split_ands; assumption)); have e1 : w2.cell? ⟨w.heap.size, 1, none⟩ = some (.int .i64 y) := (hb2.cell (p := ⟨w.heap.size, 1, none⟩) (by first | (simp; done) | (simp; omega) | omega)).trans (by first | assumption | (go_split_ands; assumption))
  refine hK.out _ _ ?_ (fun hHeld => ?_)
  · ((try dsimp only); (repeat' apply And.intro); all_goals ((repeat (first | (with_reducible refine cell_drew ?_) | (with_reducible refine cell_drewN _ ?_) | ((with_reducible refine cell_alloc ?_ ?_); · first | omega | (simp; done) | (simp; omega) | assumption) | ((with_reducible refine cell_set ?_ ?_); · first | (intro e; injection e; omega) | (intro e; simp at e; done) | (intro e; simp at e; omega)))); first | assumption | (simp; done)))
  clear hK K
  (try simp only [Act.put, List.setIfInBounds_toArray, List.set_cons_zero, List.set_cons_succ])
  refine reg_on (i := 6) (d := 11) (v := ?rv7) rfl rfl (by kernel_rfl) (by kernel_rfl) (by kernel_rfl) (fun _ _ _ h => h) (by rfl) ?ry7 (by assumption) ?rr7
  case ry7 => (intro wz hSw; (try dsimp only at hSw); go_simp; try with_reducible rfl)
  (try simp only [Act.put, List.setIfInBounds_toArray, List.set_cons_zero, List.set_cons_succ])
  refine reg_on (i := 7) (d := 4) (v := ?rv8) rfl rfl (by kernel_rfl) (by kernel_rfl) (by kernel_rfl) (fun _ _ _ h => h) (by rfl) ?ry8 (by assumption) ?rr8
  case ry8 => (intro wz hSw; (try dsimp only at hSw); go_simp; try with_reducible rfl)
  (try simp only [Act.put, List.setIfInBounds_toArray, List.set_cons_zero, List.set_cons_succ])
  refine wpAnyH_done (by kernel_rfl) ?_ _
  go_wp2
  go_ret
  exact ⟨by simp, bcall (by omega) hb2 (bcall (by simp) hb1 HB0.out.drew)⟩
set_option maxRecDepth 100000 in
set_option maxHeartbeats 2000000 in
theorem lying_any (x y : Int) (w : World) : Calls Try.prog 28 #[bar2 x y] w fun e w' => e = .returned (bar2 (max x y) (min x y)) ∧ Below w.heap.size w w' := by
  rcases (show x < y ∨ x = y ∨ y < x by omega) with h | h | h
  · rw [show max x y = y by omega, show min x y = x by omega]
    have h2 : ¬ y < x := by omega
    have h3 : ¬ y ≤ x := by omega
    go_enter Try.func28, Try.ntmps28
    go_wp2
    all_goals (refine bodyPost_ret (v := bar2 y x) (by simp [results, Try.results28, go_sem]) rfl ⟨rfl, by (repeat (first | (with_reducible exact Below.refl _ _) | (with_reducible assumption) | (with_reducible refine Below.drew ?_) | ((with_reducible refine balloc ?_ _ ?_); · (first | (simp; done) | (simp; omega) | omega)) | ((with_reducible refine bset ?_ _ ?_); · (first | (simp; done) | (simp; omega) | omega)) | (with_reducible refine bdrewN _ ?_) | ((with_reducible refine bcall ?_ (by assumption) ?_); · (first | (simp; done) | (simp; omega) | omega))))⟩)
  · subst h
    rw [show max x x = x by omega, show min x x = x by omega]
    go_enter Try.func28, Try.ntmps28
    go_wp2
    all_goals (refine bodyPost_ret (v := bar2 x x) (by simp [results, Try.results28, go_sem]) rfl ⟨rfl, by (repeat (first | (with_reducible exact Below.refl _ _) | (with_reducible assumption) | (with_reducible refine Below.drew ?_) | ((with_reducible refine balloc ?_ _ ?_); · (first | (simp; done) | (simp; omega) | omega)) | ((with_reducible refine bset ?_ _ ?_); · (first | (simp; done) | (simp; omega) | omega)) | (with_reducible refine bdrewN _ ?_) | ((with_reducible refine bcall ?_ (by assumption) ?_); · (first | (simp; done) | (simp; omega) | omega))))⟩)
  · rw [show max x y = x by omega, show min x y = y by omega]
    have h2 : ¬ x < y := by omega
    have h3 : ¬ x ≤ y := by omega
    go_enter Try.func28, Try.ntmps28
    go_wp2
    all_goals (refine bodyPost_ret (v := bar2 x y) (by simp [results, Try.results28, go_sem]) rfl ⟨rfl, by (repeat (first | (with_reducible exact Below.refl _ _) | (with_reducible assumption) | (with_reducible refine Below.drew ?_) | ((with_reducible refine balloc ?_ _ ?_); · (first | (simp; done) | (simp; omega) | omega)) | ((with_reducible refine bset ?_ _ ?_); · (first | (simp; done) | (simp; omega) | omega)) | (with_reducible refine bdrewN _ ?_) | ((with_reducible refine bcall ?_ (by assumption) ?_); · (first | (simp; done) | (simp; omega) | omega))))⟩)

/-- the sums of two lists' numbers for s squares -/
def SumS (L1 L2 : List Int) (s : Nat) (x : Int) : Prop := ∃ k, k < L1.length ∧ k ≤ s ∧ s - k < L2.length ∧ x = L1.getD k 0 + L2.getD (s - k) 0
def SumK (L1 L2 : List Int) (s lo k : Nat) (x : Int) : Prop := ∃ j, lo ≤ j ∧ j < k ∧ x = L1.getD j 0 + L2.getD (s - j) 0
theorem sumK_step (L1 L2 : List Int) (s lo k : Nat) (h : lo ≤ k) (x : Int) : (SumK L1 L2 s lo k x ∨ x = L1.getD k 0 + L2.getD (s - k) 0) ↔ SumK L1 L2 s lo (k + 1) x := by
  constructor
  · rintro (⟨j, j1, j2, e⟩ | e)
    · exact ⟨j, j1, by omega, e⟩
    · exact ⟨k, h, by omega, e⟩
  · rintro ⟨j, j1, j2, e⟩
    by_cases hj : j = k
    · subst hj; exact .inr e
    · exact .inl ⟨j, j1, by omega, e⟩
set_option maxRecDepth 100000 in
set_option maxHeartbeats 4000000 in
theorem brSum_any (A1 A2 : Option Addr) (n1 c1 n2 c2 s : Nat) (L1 L2 : List Int) (w : World) (h1 : Rd w 1 A1 n1 (intCells L1)) (h2 : Rd w 1 A2 n2 (intCells L2)) (hn1 : n1 ≤ 200) (hn2 : n2 ≤ 200) (hn2p : 1 ≤ n2) (hs : s ≤ 200)
    (hv1 : ∀ k, k < n1 → 0 ≤ L1.getD k 0 ∧ L1.getD k 0 ≤ 100000) (hv2 : ∀ k, k < n2 → 0 ≤ L2.getD k 0 ∧ L2.getD k 0 ≤ 100000) :
    Calls Try.prog 29 #[.slice A1 n1 c1, .slice A2 n2 c2, .int .i64 s] w fun e w' => ∃ v, e = .returned (.int .i64 v) ∧ IsMin (SumS L1 L2 s) v ∧ Below w.heap.size w w' := by
  have l1 := h1.ilen
  have l2 := h2.ilen
  obtain ⟨lo, hlo⟩ : ∃ lo : Nat, lo = s + 1 - n2 := ⟨_, rfl⟩
  have hmx : max (0 : Int) ((s : Int) - (n2 : Int) + 1) = (lo : Int) := by omega
  have hmx2 : (max (0 : Int) ((s : Int) - ((n2 : Int) - 1))) = (lo : Int) := by omega
  have HV1 := Lib.hid hv1
  have HV2 := Lib.hid hv2
  have HL1 := Lib.hid l1
  have HL2 := Lib.hid l2
  have HLO := Lib.hid hlo
  have hlo200 : lo ≤ 200 := by omega
  clear hv1 hv2 l1 l2 hlo hmx2
  have HMX := Lib.hid hmx
  clear hmx
  go_enter Try.func29, Try.ntmps29
  go_wp2_with fail
  refine (l1Most_max _ _ _).mono ?_; rintro e wx ⟨rfl, rfl⟩
  rw [HMX.out]
  go_wp2
  go_loopw [7, 8] (fun v i wr => ∃ (k : Nat) (z : Int), lo ≤ k ∧ i = .int .i64 k ∧ v = .int .i64 z ∧ k ≤ 201 ∧ Hid (k ≤ n1 ∧ k ≤ s + 1 ∨ k = lo) ∧ IsMin (SumK L1 L2 s lo k) z ∧ Below w.heap.size w wr) (fun _ i _ => 300 - (intOf i).toNat)
  case atStart => exact ⟨lo, -1, Nat.le_refl _, rfl, rfl, by omega, .inr rfl, IsMin.none (fun x ⟨j, j1, j2, _⟩ => by omega), Below.refl _ _⟩
  case round =>
    obtain ⟨k, z, hk, rfl, rfl, hk2, HK3, hm, hB⟩ := hrel
    by_cases hc : k < n1 ∧ k ≤ s
    · obtain ⟨hc1, hc2⟩ := hc
      have hc1i : (k : Int) < (n1 : Int) := by omega
      have hc2i : (k : Int) ≤ (s : Int) := by omega
      have hd2 : decide ((k : Int) ≤ (s : Int)) = true := by simpa using hc2
      have hsk : s - k < n2 := by have := HLO.out; omega
      obtain ⟨b1, o1, rfl, _, hx1, p1⟩ := (h1.later hB (Nat.le_refl _)).num hc1
      obtain ⟨b2, o2, rfl, _, hx2, p2⟩ := (h2.later hB (Nat.le_refl _)).num hsk
      have g1 : L1.getD k 0 = L1[k] := by simp [List.getD, hx1]
      have g2 : L2.getD (s - k) 0 = L2[s - k] := by simp [List.getD, hx2]
      have v1 := HV1.out k hc1
      have v2 := HV2.out (s - k) hsk
      rw [← g1] at p1
      rw [← g2] at p2
      have hst := hm.step (b := L1.getD k 0 + L2.getD (s - k) 0) (by omega)
      have hst2 := hst.congr (sumK_step L1 L2 s lo k hk)
      have HST := Lib.hid hst2
      have HB := Lib.hid hB
      clear hst hst2 hm hB g1 g2 hx1 hx2
      generalize L1.getD k 0 = a at *
      generalize L2.getD (s - k) 0 = b at *
      obtain ⟨q, hq⟩ : ∃ q : Nat, q = s - k := ⟨_, rfl⟩
      rw [← hq] at p2 hsk
      have hqi : (s : Int) - (k : Int) = (q : Int) := by omega
      have q0 : (0 : Int) ≤ (q : Int) := by omega
      have q1 : (q : Int) < (n2 : Int) := by omega
      have HQ := Lib.hid hq
      clear hq
      go_wp2
      have wq : IntKind.i64.wrap (q : Int) = (q : Int) := IntWalk.i64_in _ (by omega)
      have wq2 : IntKind.i64.wrap ((s : Int) - (k : Int)) = (q : Int) := by rw [hqi]; exact wq
      have ws : IntKind.i64.wrap (a + b) = a + b := IntWalk.i64_in _ (by omega)
      refine wp_region_held_drew (S := (fun w' => w'.cell? ⟨b1, o1 + k, none⟩ = some (.int .i64 a) ∧ w'.cell? ⟨b2, o2 + q, none⟩ = some (.int .i64 b))) (by kernel_rfl) ?_ (fun hHeld => ?_)
      · ((try dsimp only); (repeat' apply And.intro); all_goals ((repeat (first | (with_reducible refine cell_drew ?_) | (with_reducible refine cell_drewN _ ?_) | ((with_reducible refine cell_alloc ?_ ?_); · first | omega | (simp; done) | (simp; omega) | assumption) | ((with_reducible refine cell_set ?_ ?_); · first | (intro e; injection e; omega) | (intro e; simp at e; done) | (intro e; simp at e; omega)))); first | assumption | (simp; done)))
      refine reg_on (i := 0) (d := 26) (v := ?rv9) rfl rfl (by kernel_rfl) (by kernel_rfl) (by kernel_rfl) (fun _ _ _ h => h) (by rfl) ?ry9 (by assumption) ?rr9
      case ry9 => (intro wz hSw; (try dsimp only at hSw); go_simp; try with_reducible rfl)
      (try simp only [Act.put, List.setIfInBounds_toArray, List.set_cons_zero, List.set_cons_succ])
      refine reg_on (i := 1) (d := 27) (v := ?rv10) rfl rfl (by kernel_rfl) (by kernel_rfl) (by kernel_rfl) (fun _ _ _ h => h) (by rfl) ?ry10 (by assumption) ?rr10
      case ry10 => (intro wz hSw; (try dsimp only at hSw); go_simp; try with_reducible rfl)
      (try simp only [Act.put, List.setIfInBounds_toArray, List.set_cons_zero, List.set_cons_succ])
      refine reg_on (i := 2) (d := 28) (v := ?rv11) rfl rfl (by kernel_rfl) (by kernel_rfl) (by kernel_rfl) (fun _ _ _ h => h) (by rfl) ?ry11 (by assumption) ?rr11
      case ry11 => (intro wz hSw; (try dsimp only at hSw); go_simp; try with_reducible rfl)
      (try simp only [Act.put, List.setIfInBounds_toArray, List.set_cons_zero, List.set_cons_succ])
      refine reg_on (i := 3) (d := 29) (v := ?rv12) rfl rfl (by kernel_rfl) (by kernel_rfl) (by kernel_rfl) (fun _ _ _ h => h) (by rfl) ?ry12 (by assumption) ?rr12
      case ry12 => (intro wz hSw; (try dsimp only at hSw); go_simp; try with_reducible rfl)
      (try simp only [Act.put, List.setIfInBounds_toArray, List.set_cons_zero, List.set_cons_succ])
      refine reg_on (i := 4) (d := 30) (v := ?rv13) rfl rfl (by kernel_rfl) (by kernel_rfl) (by kernel_rfl) (fun _ _ _ h => h) (by rfl) ?ry13 (by assumption) ?rr13
      case ry13 => (intro wz hSw; (try dsimp only at hSw); go_simp; try with_reducible rfl)
      (try simp only [Act.put, List.setIfInBounds_toArray, List.set_cons_zero, List.set_cons_succ])
      refine reg_on (i := 5) (d := 31) (v := ?rv14) rfl rfl (by kernel_rfl) (by kernel_rfl) (by kernel_rfl) (fun _ _ _ h => h) (by rfl) ?ry14 (by assumption) ?rr14
      case ry14 => (intro wz hSw; (try dsimp only at hSw); go_simp; try with_reducible rfl)
      (try simp only [Act.put, List.setIfInBounds_toArray, List.set_cons_zero, List.set_cons_succ])
      refine reg_on (i := 6) (d := 32) (v := ?rv15) rfl rfl (by kernel_rfl) (by kernel_rfl) (by kernel_rfl) (fun _ _ _ h => h) (by rfl) ?ry15 (by assumption) ?rr15
      case ry15 => (intro wz hSw; (try dsimp only at hSw); go_simp; try with_reducible rfl)
      (try simp only [Act.put, List.setIfInBounds_toArray, List.set_cons_zero, List.set_cons_succ])
      refine reg_on (i := 7) (d := 33) (v := ?rv16) rfl rfl (by kernel_rfl) (by kernel_rfl) (by kernel_rfl) (fun _ _ _ h => h) (by rfl) ?ry16 (by assumption) ?rr16
      case ry16 => (intro wz hSw; (try dsimp only at hSw); go_simp; try with_reducible rfl)
      (try simp only [Act.put, List.setIfInBounds_toArray, List.set_cons_zero, List.set_cons_succ])
      refine reg_on (i := 8) (d := 34) (v := ?rv17) rfl rfl (by kernel_rfl) (by kernel_rfl) (by kernel_rfl) (fun _ _ _ h => h) (by rfl) ?ry17 (by assumption) ?rr17
      case ry17 => (intro wz hSw; (try dsimp only at hSw); go_simp; try with_reducible rfl)
      (try simp only [Act.put, List.setIfInBounds_toArray, List.set_cons_zero, List.set_cons_succ])
      refine reg_on (i := 9) (d := 35) (v := ?rv18) rfl rfl (by kernel_rfl) (by kernel_rfl) (by kernel_rfl) (fun _ _ _ h => h) (by rfl) ?ry18 (by assumption) ?rr18
      case ry18 => (intro wz hSw; (try dsimp only at hSw); go_simp; try with_reducible rfl)
      (try simp only [Act.put, List.setIfInBounds_toArray, List.set_cons_zero, List.set_cons_succ])
      refine reg_on (i := 10) (d := 36) (v := ?rv19) rfl rfl (by kernel_rfl) (by kernel_rfl) (by kernel_rfl) (fun _ _ _ h => h) (by rfl) ?ry19 (by assumption) ?rr19
      case ry19 => (intro wz hSw; (try dsimp only at hSw); go_simp; try with_reducible rfl)
      (try simp only [Act.put, List.setIfInBounds_toArray, List.set_cons_zero, List.set_cons_succ])
      refine reg_on (i := 11) (d := 37) (v := ?rv20) rfl rfl (by kernel_rfl) (by kernel_rfl) (by kernel_rfl) (fun _ _ _ h => h) (by rfl) ?ry20 (by assumption) ?rr20
      case ry20 => (intro wz hSw; (try dsimp only at hSw); go_simp; try with_reducible rfl)
      (try simp only [Act.put, List.setIfInBounds_toArray, List.set_cons_zero, List.set_cons_succ])
      refine wpAnyH_ready (rs := [12]) (by kernel_rfl) (by simp) ?_
      refine AllReadyH.cons rfl (fun K hK => ?_) AllReadyH.nil
      go_simp
      go_at_call 42; refine (brLess_any _ _ _).mono ?_; rintro e wx ⟨rfl, rfl⟩
      refine hK.out _ _ ?_ (fun hHeld => ?_)
      · ((try dsimp only); (repeat' apply And.intro); all_goals ((repeat (first | (with_reducible refine cell_drew ?_) | (with_reducible refine cell_drewN _ ?_) | ((with_reducible refine cell_alloc ?_ ?_); · first | omega | (simp; done) | (simp; omega) | assumption) | ((with_reducible refine cell_set ?_ ?_); · first | (intro e; injection e; omega) | (intro e; simp at e; done) | (intro e; simp at e; omega)))); first | assumption | (simp; done)))
      clear hK K
      (try simp only [Act.put, List.setIfInBounds_toArray, List.set_cons_zero, List.set_cons_succ])
      refine reg_on (i := 13) (d := 7) (v := ?rv22) rfl rfl (by kernel_rfl) (by kernel_rfl) (by kernel_rfl) (fun _ _ _ h => h) (by rfl) ?ry22 (by assumption) ?rr22
      case ry22 => (intro wz hSw; (try dsimp only at hSw); go_simp; try with_reducible rfl)
      (try simp only [Act.put, List.setIfInBounds_toArray, List.set_cons_zero, List.set_cons_succ])
      refine wpAnyH_done (by kernel_rfl) ?_ _
      have HBD := Lib.hid HB.out.drew
      clear HB p1 p2
      go_wp2
      go_roundw
      case rel => exact ⟨k + 1, lessI z (a + b), by omega, by go_num, rfl, by omega, .inl ⟨by omega, by omega⟩, HST.out, HBD.out⟩
      case measure => simp [intOf]; omega
    · have hfin : ∀ x, SumK L1 L2 s lo k x ↔ SumS L1 L2 s x := by
        intro x
        have e1 := HL1.out
        have e2 := HL2.out
        have e3 := HLO.out
        have e4 := HK3.out
        constructor
        · rintro ⟨j, j1, j2, e⟩
          exact ⟨j, by omega, by omega, by omega, e⟩
        · rintro ⟨j, j1, j2, j3, e⟩
          exact ⟨j, by omega, by omega, e⟩
      have HM := Lib.hid (hm.congr hfin)
      clear hm hfin
      by_cases hc1 : k < n1
      · have hc1i : (k : Int) < (n1 : Int) := by omega
        have hc2i : ¬ (k : Int) ≤ (s : Int) := by omega
        have hd2 : decide ((k : Int) ≤ (s : Int)) = false := by simpa using hc2i
        go_wp2
        go_ret
        exact ⟨z, rfl, HM.out, hB⟩
      · have hc1i : ¬ (k : Int) < (n1 : Int) := by omega
        go_wp2
        go_ret
        exact ⟨z, rfl, HM.out, hB⟩

end Go.Proofs.Ytobncknlipeinaa
