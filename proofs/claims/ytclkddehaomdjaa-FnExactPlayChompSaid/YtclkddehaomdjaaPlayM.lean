/-
  Contract: PlayChomp of the model.
-/
import Derived.Test.YtclkddehaomdjaaPlayS
import Derived.Test.YtclkddehaomdjaaOpenSS
namespace Go.Proofs.Ytclkddehaomdjaa
open Go.RowKit
set_option linter.unusedVariables false
set_option linter.unusedSimpArgs false

set_option maxRecDepth 100000 in
set_option maxHeartbeats 1000000 in
theorem l1Own_rd (A : Option Addr) (n c : Nat) (b : List Int) (w : World) (hr : Rd w 1 A n (intCells b)) (hn1 : 1 ≤ n) (hn : n ≤ 1000) :
    Calls Try.prog 61 #[.slice A n c] w fun e w' => ∃ A' c', e = .returned (.slice A' n c') ∧ w'.ownsRow w.heap.size 3 1 (.slice A' n c') n (intCells b) ∧ Below w.heap.size w w' := by
  obtain ⟨i0, hi, hz0, hz1, hz2⟩ := info_parts int_info
  have hne := World.ownsRow_lit (base := w.heap.size) (e := 3) (size := 1) w #[] 0 (Nat.le_refl _) (by simp [maxLen]) rfl
  have hlen : b.length = n := hr.ilen
  obtain ⟨g, o, rfl, hgl, _⟩ := hr.2 (by omega)
  have hr2 := hr.alloc (.cells #[] 3)
  have hc0 : (intCells b).length = n * 1 := by rw [length_intCells, hlen, Nat.mul_one]
  have hc1 := rd_addI hr2
  have hc3 : 0 + n ≤ maxLen := by simp only [maxLen]; omega
  have hc4 : (0 + n) * 8 ≤ 140737488355328 := by omega
  have hc5 : w.heap.size ≤ (w.alloc (.cells #[] 3)).heap.size := by simp
  go_enter Try.func61, Try.ntmps61
  go_wp2_with (at_builtin; refine wpList_append_own _ rfl (.tmp 3) (.tmp 4) 22 rfl w.heap.size 3 i0 (.int .i64 0) 1 8 Try.underlying22 hi hz0 hz1 hz2 rfl (by decide) _ _ _ rfl hne ⟨g, o, none⟩ n c (intCells b) rfl hc0 hc1 (int_oneCell b) hc3 hc4 hc5 ?_)
  intro v' w2 hown' hgrow _
  have hb2 := gb_new (Nat.le_refl _) ((Below.refl w.heap.size w).alloc (Nat.le_refl _) (.cells #[] 3)) hgrow (fun g hg => (hne.lt g hg).1)
  obtain ⟨A', c', rfl⟩ := own_slice hown'
  clear hc0 hc1 hc3 hc4 hc5
  go_wp2
  go_ret
  exact ⟨A', c', by simp, by simpa using hown', hb2⟩

set_option maxRecDepth 100000 in
set_option maxHeartbeats 4000000 in
theorem sPlayChomp_any (A : Option Addr) (n c : Nat) (l : List Int) (Ad : Option Addr) (N d : Nat) (R : Nat → List Int) (w : World) (hr : Rd w 1 A n (intCells l)) (hn : n ≤ 1000000000) (hm : RdSS w Ad N R) (hN : N ≤ 1000000000) (hR : ∀ i, i < N → (R i).length ≤ 1000000000) :
    Calls Try.prog 33 #[.slice A n c, .slice Ad N d] w fun e w' => ∃ A' n' c', e = .returned (.tuple #[.slice A' n' c', .bool (plB l R N)]) ∧ w'.ownsRow w.heap.size 3 1 (.slice A' n' c') n' (intCells (plR l R N)) ∧ Below w.heap.size w w' := by
  have HC := Lib.hid (fun wx h => cmGood_any A n c l wx h hn)
  have HRR := Lib.hid hR
  clear hR
  cases hb : chB l
  · have HPO := Lib.hid (pl_no (l := l) (R := R) (n := N) (by simp [plO, hb]))
    rw [HPO.out.1, HPO.out.2]
    have HB := Lib.hid hb
    clear hb
    go_enter Try.func33, Try.ntmps33
    go_wp2_with fail
    refine (HC.out _ hr).mono ?_; rintro e w1 ⟨rfl, hb1⟩
    rw [HB.out]
    go_wp2
    go_ret2
    exact ⟨none, 0, 0, rfl, World.ownsRow_nil _ _ _ _, hb1⟩
  by_cases h36 : N ≤ 36
  case neg =>
    have HPO := Lib.hid (pl_no (l := l) (R := R) (n := N) (by simp [plO, h36]))
    rw [HPO.out.1, HPO.out.2]
    have HB := Lib.hid hb
    have hd : decide ((36 : Int) < (N : Int)) = true := decide_eq_true (by omega)
    clear hb
    go_enter Try.func33, Try.ntmps33
    go_wp2_with fail
    refine (HC.out _ hr).mono ?_; rintro e w1 ⟨rfl, hb1⟩
    rw [HB.out]
    go_wp2
    go_ret2
    exact ⟨none, 0, 0, rfl, World.ownsRow_nil _ _ _ _, hb1⟩
  have HPO : Hid (plO l R N = plK l R N) := if_pos ⟨hb, h36⟩
  have HOK := Lib.hid (chB_true.1 hb)
  have HB := Lib.hid hb
  have hd : decide ((36 : Int) < (N : Int)) = false := decide_eq_false (by omega)
  have hln := hr.ilen
  have h6 := (chB_true.1 hb).2.1
  have h1 := (chB_true.1 hb).1
  clear hb
  go_enter Try.func33, Try.ntmps33
  go_wp2_with fail
  refine (HC.out _ hr).mono ?_; rintro e w1 ⟨rfl, hb1⟩
  rw [HB.out]
  have hr1 := hr.later hb1 (Nat.le_refl _)
  have s1 := hb1.size
  have HOW := Lib.hid (fun wx h => l1Own_rd A n c l wx h (by omega) (by omega))
  have HB1 := Lib.hid hb1
  clear hb1 hln
  go_wp2_with fail
  refine (HOW.out _ hr1).mono ?_; rintro e w2 ⟨A2, c2, rfl, ho2, hb2⟩
  have HO2 := Lib.hid (own_base ho2 s1)
  have HB2 := Lib.hid (HB1.out.trans (hb2.mono s1))
  have HMM := Lib.hid hm
  clear ho2 hb2 hm
  go_wp2
  go_loopw [6, 21] (fun v i wr => ∃ (k : Nat) (now : List Int) (A' : Option Addr) (n' c' : Nat), k ≤ N ∧ i = .int .i64 k ∧ v = .slice A' n' c' ∧ Hid (plK l R k = some now) ∧ wr.ownsRow w.heap.size 3 1 (.slice A' n' c') n' (intCells now) ∧ Below w.heap.size w wr) (fun _ i _ => N - (intOf i).toNat)
  case atStart => exact ⟨0, l, A2, n, c2, Nat.zero_le _, rfl, rfl, rfl, HO2.out, HB2.out⟩
  case round =>
    clear HO2 HB2
    obtain ⟨k, now, A', n', c', hk, rfl, rfl, hP, hown, hB⟩ := hrel
    have sB := hB.size
    by_cases hlt : k < N
    · obtain ⟨b, o, rfl, hbl, a, cc, p0, r0⟩ := (HMM.out.later hB (Nat.le_refl _)).row hlt
      have HRL := Lib.hid (HRR.out k hlt)
      have HS : Hid (plK l R (k + 1) = stepM (some now) (R k)) := by simp only [Hid, plK]; rw [hP.out]
      generalize hq : R k = m at *
      clear hq
      by_cases h2 : m.length = 2
      case neg =>
        have HPN := Lib.hid (pl_no (l := l) (R := R) (n := N) (by rw [HPO.out]; exact plK_none (k := k + 1) (by rw [HS.out]; simp [stepM, h2]) (by omega)))
        have hne : ((m.length : Int) != 2) = true := by simp; omega
        have HBB := Lib.hid hB
        clear h2 r0 hB hown
        go_wp2
        refine wp_region_held_drew (S := (fun _ => True)) (by kernel_rfl) ?_ (fun hHeld => ?_)
        · ((try dsimp only); (repeat' apply And.intro); all_goals ((repeat (first | (with_reducible refine cell_drew ?_) | (with_reducible refine cell_drewN _ ?_) | ((with_reducible refine cell_alloc ?_ ?_); · first | omega | (simp; done) | (simp; omega) | assumption) | ((with_reducible refine cell_set ?_ ?_); · first | (intro e; injection e; omega) | (intro e; simp at e; done) | (intro e; simp at e; omega)))); first | assumption | (simp; done)))
        refine reg_on (i := 0) (d := 25) (v := ?rv1) rfl rfl (by kernel_rfl) (by kernel_rfl) (by kernel_rfl) (fun _ _ _ h => h) (by rfl) ?ry1 (by assumption) ?rr1
        case ry1 => (intro wz hSw; (try dsimp only at hSw); go_simp; try with_reducible rfl)
        (try simp only [Act.put, List.setIfInBounds_toArray, List.set_cons_zero, List.set_cons_succ])
        refine reg_on (i := 1) (d := 26) (v := ?rv2) rfl rfl (by kernel_rfl) (by kernel_rfl) (by kernel_rfl) (fun _ _ _ h => h) (by rfl) ?ry2 (by assumption) ?rr2
        case ry2 => (intro wz hSw; (try dsimp only at hSw); go_simp; try with_reducible rfl)
        (try simp only [Act.put, List.setIfInBounds_toArray, List.set_cons_zero, List.set_cons_succ])
        refine reg_on (i := 2) (d := 27) (v := ?rv3) rfl rfl (by kernel_rfl) (by kernel_rfl) (by kernel_rfl) (fun _ _ _ h => h) (by rfl) ?ry3 (by assumption) ?rr3
        case ry3 => (intro wz hSw; (try dsimp only at hSw); go_simp; try with_reducible rfl)
        (try simp only [Act.put, List.setIfInBounds_toArray, List.set_cons_zero, List.set_cons_succ])
        refine reg_on (i := 3) (d := 28) (v := ?rv4) rfl rfl (by kernel_rfl) (by kernel_rfl) (by kernel_rfl) (fun _ _ _ h => h) (by rfl) ?ry4 (by assumption) ?rr4
        case ry4 => (intro wz hSw; (try dsimp only at hSw); go_simp; try with_reducible rfl)
        (try simp only [Act.put, List.setIfInBounds_toArray, List.set_cons_zero, List.set_cons_succ])
        refine reg_off (i := 4) (d := 29) rfl rfl (by kernel_rfl) (by kernel_rfl) (by kernel_rfl) (fun _ _ _ h => h) (by rfl) (by assumption) ?_; (try simp only [Act.put, List.setIfInBounds_toArray, List.set_cons_zero, List.set_cons_succ])
        refine reg_off (i := 5) (d := 30) rfl rfl (by kernel_rfl) (by kernel_rfl) (by kernel_rfl) (fun _ _ _ h => h) (by rfl) (by assumption) ?_; (try simp only [Act.put, List.setIfInBounds_toArray, List.set_cons_zero, List.set_cons_succ])
        refine reg_off (i := 6) (d := 31) rfl rfl (by kernel_rfl) (by kernel_rfl) (by kernel_rfl) (fun _ _ _ h => h) (by rfl) (by assumption) ?_; (try simp only [Act.put, List.setIfInBounds_toArray, List.set_cons_zero, List.set_cons_succ])
        refine reg_off (i := 7) (d := 32) rfl rfl (by kernel_rfl) (by kernel_rfl) (by kernel_rfl) (fun _ _ _ h => h) (by rfl) (by assumption) ?_; (try simp only [Act.put, List.setIfInBounds_toArray, List.set_cons_zero, List.set_cons_succ])
        refine reg_off (i := 8) (d := 33) rfl rfl (by kernel_rfl) (by kernel_rfl) (by kernel_rfl) (fun _ _ _ h => h) (by rfl) (by assumption) ?_; (try simp only [Act.put, List.setIfInBounds_toArray, List.set_cons_zero, List.set_cons_succ])
        refine reg_off (i := 9) (d := 34) rfl rfl (by kernel_rfl) (by kernel_rfl) (by kernel_rfl) (fun _ _ _ h => h) (by rfl) (by assumption) ?_; (try simp only [Act.put, List.setIfInBounds_toArray, List.set_cons_zero, List.set_cons_succ])
        refine reg_off (i := 10) (d := 35) rfl rfl (by kernel_rfl) (by kernel_rfl) (by kernel_rfl) (fun _ _ _ h => h) (by rfl) (by assumption) ?_; (try simp only [Act.put, List.setIfInBounds_toArray, List.set_cons_zero, List.set_cons_succ])
        refine reg_off (i := 11) (d := 36) rfl rfl (by kernel_rfl) (by kernel_rfl) (by kernel_rfl) (fun _ _ _ h => h) (by rfl) (by assumption) ?_; (try simp only [Act.put, List.setIfInBounds_toArray, List.set_cons_zero, List.set_cons_succ])
        refine reg_off (i := 12) (d := 37) rfl rfl (by kernel_rfl) (by kernel_rfl) (by kernel_rfl) (fun _ _ _ h => h) (by rfl) (by assumption) ?_; (try simp only [Act.put, List.setIfInBounds_toArray, List.set_cons_zero, List.set_cons_succ])
        refine reg_on (i := 13) (d := 38) (v := ?rv14) rfl rfl (by kernel_rfl) (by kernel_rfl) (by kernel_rfl) (fun _ _ _ h => h) (by rfl) ?ry14 (by assumption) ?rr14
        case ry14 => (intro wz hSw; (try dsimp only at hSw); go_simp; try with_reducible rfl)
        (try simp only [Act.put, List.setIfInBounds_toArray, List.set_cons_zero, List.set_cons_succ])
        refine wpAnyH_done (by kernel_rfl) ?_ _
        have hB3 : Below w.heap.size w wr.drew := HBB.out.drew
        go_wp2
        go_ret2
        exact ⟨none, 0, 0, by rw [HPN.out.1]; rfl, by rw [HPN.out.2]; exact World.ownsRow_nil _ _ _ _, hB3⟩
      have hne : ((m.length : Int) != 2) = false := by simp; omega
      obtain ⟨b2, o2, rfl, l2, hx0, q0⟩ := r0.num (k := 0) (by omega)
      obtain ⟨b3, o3, e3, l3, hx1, q1⟩ := r0.num (k := 1) (by omega)
      simp only [Option.some.injEq, Addr.mk.injEq, and_true] at e3
      obtain ⟨rfl, rfl⟩ := e3
      have HX := Lib.hid (getD_lt hx0)
      have HY := Lib.hid (getD_lt hx1)
      rw [Nat.add_zero] at q0
      have i0 : (0 : Int) < (m.length : Int) := by omega
      have i1 : (1 : Int) < (m.length : Int) := by omega
      have i0n : 0 < m.length := by omega
      have i1n : 1 < m.length := by omega
      generalize m[0] = x at *
      generalize m[1] = y at *
      have HM2 := Lib.hid h2
      clear hx0 hx1 r0 h2
      have HST : Hid (plK l R (k + 1) = if canC now x y = true then some (biteL now x y) else none) := by
        simp only [Hid]
        rw [HS.out]
        simp only [stepM, Option.bind_some, HX.out, HY.out, HM2.out, true_and]
      have HNK : Hid (ChOK now) := plK_ok HOK.out hP.out
      have HCC := Lib.hid (fun wx h => cmCan_any A' n' c' now x y wx h HNK.out)
      have HRW := Lib.hid (Rd.of_own hown)
      have HBB := Lib.hid hB
      clear hown hB
      go_wp2
      refine wp_region_held_drew (S := (fun w' => w'.cell? ⟨b2, o2, none⟩ = some (.int .i64 x) ∧ w'.cell? ⟨b2, o2 + 1, none⟩ = some (.int .i64 y))) (by kernel_rfl) ?_ (fun hHeld => ?_)
      · ((try dsimp only); (repeat' apply And.intro); all_goals ((repeat (first | (with_reducible refine cell_drew ?_) | (with_reducible refine cell_drewN _ ?_) | ((with_reducible refine cell_alloc ?_ ?_); · first | omega | (simp; done) | (simp; omega) | assumption) | ((with_reducible refine cell_set ?_ ?_); · first | (intro e; injection e; omega) | (intro e; simp at e; done) | (intro e; simp at e; omega)))); first | assumption | (simp; done)))
      refine reg_on (i := 0) (d := 25) (v := ?rv15) rfl rfl (by kernel_rfl) (by kernel_rfl) (by kernel_rfl) (fun _ _ _ h => h) (by rfl) ?ry15 (by assumption) ?rr15
      case ry15 => (intro wz hSw; (try dsimp only at hSw); go_simp; try with_reducible rfl)
      (try simp only [Act.put, List.setIfInBounds_toArray, List.set_cons_zero, List.set_cons_succ])
      refine reg_on (i := 1) (d := 26) (v := ?rv16) rfl rfl (by kernel_rfl) (by kernel_rfl) (by kernel_rfl) (fun _ _ _ h => h) (by rfl) ?ry16 (by assumption) ?rr16
      case ry16 => (intro wz hSw; (try dsimp only at hSw); go_simp; try with_reducible rfl)
      (try simp only [Act.put, List.setIfInBounds_toArray, List.set_cons_zero, List.set_cons_succ])
      refine reg_on (i := 2) (d := 27) (v := ?rv17) rfl rfl (by kernel_rfl) (by kernel_rfl) (by kernel_rfl) (fun _ _ _ h => h) (by rfl) ?ry17 (by assumption) ?rr17
      case ry17 => (intro wz hSw; (try dsimp only at hSw); go_simp; try with_reducible rfl)
      (try simp only [Act.put, List.setIfInBounds_toArray, List.set_cons_zero, List.set_cons_succ])
      refine reg_on (i := 3) (d := 28) (v := ?rv18) rfl rfl (by kernel_rfl) (by kernel_rfl) (by kernel_rfl) (fun _ _ _ h => h) (by rfl) ?ry18 (by assumption) ?rr18
      case ry18 => (intro wz hSw; (try dsimp only at hSw); go_simp; try with_reducible rfl)
      (try simp only [Act.put, List.setIfInBounds_toArray, List.set_cons_zero, List.set_cons_succ])
      refine reg_on (i := 4) (d := 29) (v := ?rv19) rfl rfl (by kernel_rfl) (by kernel_rfl) (by kernel_rfl) (fun _ _ _ h => h) (by rfl) ?ry19 (by assumption) ?rr19
      case ry19 => (intro wz hSw; (try dsimp only at hSw); go_simp; try with_reducible rfl)
      (try simp only [Act.put, List.setIfInBounds_toArray, List.set_cons_zero, List.set_cons_succ])
      refine reg_on (i := 5) (d := 30) (v := ?rv20) rfl rfl (by kernel_rfl) (by kernel_rfl) (by kernel_rfl) (fun _ _ _ h => h) (by rfl) ?ry20 (by assumption) ?rr20
      case ry20 => (intro wz hSw; (try dsimp only at hSw); go_simp; try with_reducible rfl)
      (try simp only [Act.put, List.setIfInBounds_toArray, List.set_cons_zero, List.set_cons_succ])
      refine reg_on (i := 6) (d := 31) (v := ?rv21) rfl rfl (by kernel_rfl) (by kernel_rfl) (by kernel_rfl) (fun _ _ _ h => h) (by rfl) ?ry21 (by assumption) ?rr21
      case ry21 => (intro wz hSw; (try dsimp only at hSw); go_simp; try with_reducible rfl)
      (try simp only [Act.put, List.setIfInBounds_toArray, List.set_cons_zero, List.set_cons_succ])
      refine reg_on (i := 7) (d := 32) (v := ?rv22) rfl rfl (by kernel_rfl) (by kernel_rfl) (by kernel_rfl) (fun _ _ _ h => h) (by rfl) ?ry22 (by assumption) ?rr22
      case ry22 => (intro wz hSw; (try dsimp only at hSw); go_simp; try with_reducible rfl)
      (try simp only [Act.put, List.setIfInBounds_toArray, List.set_cons_zero, List.set_cons_succ])
      refine reg_on (i := 8) (d := 33) (v := ?rv23) rfl rfl (by kernel_rfl) (by kernel_rfl) (by kernel_rfl) (fun _ _ _ h => h) (by rfl) ?ry23 (by assumption) ?rr23
      case ry23 => (intro wz hSw; (try dsimp only at hSw); go_simp; try with_reducible rfl)
      (try simp only [Act.put, List.setIfInBounds_toArray, List.set_cons_zero, List.set_cons_succ])
      refine reg_on (i := 9) (d := 34) (v := ?rv24) rfl rfl (by kernel_rfl) (by kernel_rfl) (by kernel_rfl) (fun _ _ _ h => h) (by rfl) ?ry24 (by assumption) ?rr24
      case ry24 => (intro wz hSw; (try dsimp only at hSw); go_simp; try with_reducible rfl)
      (try simp only [Act.put, List.setIfInBounds_toArray, List.set_cons_zero, List.set_cons_succ])
      refine reg_on (i := 10) (d := 35) (v := ?rv25) rfl rfl (by kernel_rfl) (by kernel_rfl) (by kernel_rfl) (fun _ _ _ h => h) (by rfl) ?ry25 (by assumption) ?rr25
      case ry25 => (intro wz hSw; (try dsimp only at hSw); go_simp; try with_reducible rfl)
      (try simp only [Act.put, List.setIfInBounds_toArray, List.set_cons_zero, List.set_cons_succ])
      refine wpAnyH_ready (rs := [11]) (by kernel_rfl) (by simp) ?_
      refine AllReadyH.cons rfl (fun K hK => ?_) AllReadyH.nil
      go_simp
      go_at_call 55; refine (HCC.out _ (by exact HRW.out)).mono ?_; rintro e wx ⟨rfl, rfl⟩
      refine hK.out _ _ ?_ (fun hHeld => ?_)
      · ((try dsimp only); (repeat' apply And.intro); all_goals ((repeat (first | (with_reducible refine cell_drew ?_) | (with_reducible refine cell_drewN _ ?_) | ((with_reducible refine cell_alloc ?_ ?_); · first | omega | (simp; done) | (simp; omega) | assumption) | ((with_reducible refine cell_set ?_ ?_); · first | (intro e; injection e; omega) | (intro e; simp at e; done) | (intro e; simp at e; omega)))); first | assumption | (simp; done)))
      clear hK K
      (try simp only [Act.put, List.setIfInBounds_toArray, List.set_cons_zero, List.set_cons_succ])
      refine reg_on (i := 12) (d := 37) (v := ?rv27) rfl rfl (by kernel_rfl) (by kernel_rfl) (by kernel_rfl) (fun _ _ _ h => h) (by rfl) ?ry27 (by assumption) ?rr27
      case ry27 => (intro wz hSw; (try dsimp only at hSw); go_simp; try with_reducible rfl)
      (try simp only [Act.put, List.setIfInBounds_toArray, List.set_cons_zero, List.set_cons_succ])
      refine reg_on (i := 13) (d := 38) (v := ?rv28) rfl rfl (by kernel_rfl) (by kernel_rfl) (by kernel_rfl) (fun _ _ _ h => h) (by rfl) ?ry28 (by assumption) ?rr28
      case ry28 => (intro wz hSw; (try dsimp only at hSw); go_simp; try with_reducible rfl)
      (try simp only [Act.put, List.setIfInBounds_toArray, List.set_cons_zero, List.set_cons_succ])
      refine wpAnyH_done (by kernel_rfl) ?_ _
      have HBD : Hid (Below w.heap.size w wr.drew) := HBB.out.drew
      have HRD : Hid (Rd wr.drew 1 A' n' (intCells now)) := HRW.out
      have q0' : wr.drew.cell? ⟨b2, o2, none⟩ = some (.int .i64 x) := q0
      have q1' : wr.drew.cell? ⟨b2, o2 + 1, none⟩ = some (.int .i64 y) := q1
      have l2' : b2 < wr.drew.heap.size := l2
      have sD : w.heap.size ≤ wr.drew.heap.size := sB
      clear HRW HBB q0 q1 p0
      generalize wr.drew = wd at *
      by_cases hcan : canC now x y = true
      · have h5 := canC_true hcan
        obtain ⟨yn, rfl⟩ : ∃ yn : Nat, y = yn := ⟨y.toNat, by omega⟩
        have HST2 : Hid (plK l R (k + 1) = some (biteL now x yn)) := by simp only [Hid]; rw [HST.out, if_pos hcan]
        have HBI := Lib.hid (fun wx h => cmBite_any A' n' c' now x yn wx h HNK.out h5.1 (by omega))
        rw [hcan]
        clear hcan h5 HCC
        go_wp2
        refine wp_region_held_drew (S := (fun w' => w'.cell? ⟨b2, o2, none⟩ = some (.int .i64 x) ∧ w'.cell? ⟨b2, o2 + 1, none⟩ = some (.int .i64 (yn : Int)))) (by kernel_rfl) ?_ (fun hHeld => ?_)
        · ((try dsimp only); (repeat' apply And.intro); all_goals ((repeat (first | (with_reducible refine cell_drew ?_) | (with_reducible refine cell_drewN _ ?_) | ((with_reducible refine cell_alloc ?_ ?_); · first | omega | (simp; done) | (simp; omega) | assumption) | ((with_reducible refine cell_set ?_ ?_); · first | (intro e; injection e; omega) | (intro e; simp at e; done) | (intro e; simp at e; omega)))); first | assumption | (simp; done)))
        refine reg_on (i := 0) (d := 39) (v := ?rv29) rfl rfl (by kernel_rfl) (by kernel_rfl) (by kernel_rfl) (fun _ _ _ h => h) (by rfl) ?ry29 (by assumption) ?rr29
        case ry29 => (intro wz hSw; (try dsimp only at hSw); go_simp; try with_reducible rfl)
        (try simp only [Act.put, List.setIfInBounds_toArray, List.set_cons_zero, List.set_cons_succ])
        refine reg_on (i := 1) (d := 40) (v := ?rv30) rfl rfl (by kernel_rfl) (by kernel_rfl) (by kernel_rfl) (fun _ _ _ h => h) (by rfl) ?ry30 (by assumption) ?rr30
        case ry30 => (intro wz hSw; (try dsimp only at hSw); go_simp; try with_reducible rfl)
        (try simp only [Act.put, List.setIfInBounds_toArray, List.set_cons_zero, List.set_cons_succ])
        refine reg_on (i := 2) (d := 41) (v := ?rv31) rfl rfl (by kernel_rfl) (by kernel_rfl) (by kernel_rfl) (fun _ _ _ h => h) (by rfl) ?ry31 (by assumption) ?rr31
        case ry31 => (intro wz hSw; (try dsimp only at hSw); go_simp; try with_reducible rfl)
        (try simp only [Act.put, List.setIfInBounds_toArray, List.set_cons_zero, List.set_cons_succ])
        refine reg_on (i := 3) (d := 42) (v := ?rv32) rfl rfl (by kernel_rfl) (by kernel_rfl) (by kernel_rfl) (fun _ _ _ h => h) (by rfl) ?ry32 (by assumption) ?rr32
        case ry32 => (intro wz hSw; (try dsimp only at hSw); go_simp; try with_reducible rfl)
        (try simp only [Act.put, List.setIfInBounds_toArray, List.set_cons_zero, List.set_cons_succ])
        refine reg_on (i := 4) (d := 43) (v := ?rv33) rfl rfl (by kernel_rfl) (by kernel_rfl) (by kernel_rfl) (fun _ _ _ h => h) (by rfl) ?ry33 (by assumption) ?rr33
        case ry33 => (intro wz hSw; (try dsimp only at hSw); go_simp; try with_reducible rfl)
        (try simp only [Act.put, List.setIfInBounds_toArray, List.set_cons_zero, List.set_cons_succ])
        refine reg_on (i := 5) (d := 44) (v := ?rv34) rfl rfl (by kernel_rfl) (by kernel_rfl) (by kernel_rfl) (fun _ _ _ h => h) (by rfl) ?ry34 (by assumption) ?rr34
        case ry34 => (intro wz hSw; (try dsimp only at hSw); go_simp; try with_reducible rfl)
        (try simp only [Act.put, List.setIfInBounds_toArray, List.set_cons_zero, List.set_cons_succ])
        refine reg_on (i := 6) (d := 45) (v := ?rv35) rfl rfl (by kernel_rfl) (by kernel_rfl) (by kernel_rfl) (fun _ _ _ h => h) (by rfl) ?ry35 (by assumption) ?rr35
        case ry35 => (intro wz hSw; (try dsimp only at hSw); go_simp; try with_reducible rfl)
        (try simp only [Act.put, List.setIfInBounds_toArray, List.set_cons_zero, List.set_cons_succ])
        refine wpAnyH_ready (rs := [7]) (by kernel_rfl) (by simp) ?_
        refine AllReadyH.cons rfl (fun K hK => ?_) AllReadyH.nil
        go_simp
        go_at_call 56; refine (HBI.out _ (by exact HRD.out)).mono ?_; rintro e w3 ⟨A3, n3, c3, rfl, o3, hb3⟩; have k0 : w3.cell? ⟨b2, o2, none⟩ = some (.int .i64 x) := (hb3.cell (p := ⟨b2, o2, none⟩) (by exact l2')).trans (by first | assumption | (go_split_ands; assumption)); have k1 : w3.cell? ⟨b2, o2 + 1, none⟩ = some (.int .i64 (yn : Int)) := (hb3.cell (p := ⟨b2, o2 + 1, none⟩) (by exact l2')).trans (by first | assumption | (go_split_ands; assumption))
        refine hK.out _ _ ?_ (fun hHeld => ?_)
        · ((try dsimp only); (repeat' apply And.intro); all_goals ((repeat (first | (with_reducible refine cell_drew ?_) | (with_reducible refine cell_drewN _ ?_) | ((with_reducible refine cell_alloc ?_ ?_); · first | omega | (simp; done) | (simp; omega) | assumption) | ((with_reducible refine cell_set ?_ ?_); · first | (intro e; injection e; omega) | (intro e; simp at e; done) | (intro e; simp at e; omega)))); first | assumption | (simp; done)))
        clear hK K
        (try simp only [Act.put, List.setIfInBounds_toArray, List.set_cons_zero, List.set_cons_succ])
        refine reg_on (i := 8) (d := 6) (v := ?rv37) rfl rfl (by kernel_rfl) (by kernel_rfl) (by kernel_rfl) (fun _ _ _ h => h) (by rfl) ?ry37 (by assumption) ?rr37
        case ry37 => (intro wz hSw; (try dsimp only at hSw); go_simp; try with_reducible rfl)
        (try simp only [Act.put, List.setIfInBounds_toArray, List.set_cons_zero, List.set_cons_succ])
        refine wpAnyH_done (by kernel_rfl) ?_ _
        have hb3w : Below wd.heap.size wd w3 := (Below.refl wd.heap.size wd).drew.trans hb3
        have HO3 := Lib.hid (own_base o3 (show w.heap.size ≤ wd.drew.heap.size from sD))
        have HB3 := Lib.hid (HBD.out.trans (hb3w.mono sD))
        clear o3 hb3 hb3w k0 k1 q0' q1'
        go_wp2
        go_roundw
        case rel => exact ⟨k + 1, _, A3, n3, c3, by omega, by go_num, rfl, HST2.out, HO3.out, HB3.out⟩
        case measure => simp [intOf]; omega
      · have hcf : canC now x y = false := by simpa using hcan
        have HPN := Lib.hid (pl_no (l := l) (R := R) (n := N) (by rw [HPO.out]; exact plK_none (k := k + 1) (by rw [HST.out, if_neg hcan]) (by omega)))
        rw [hcf]
        clear hcan hcf
        go_wp2
        go_ret2
        exact ⟨none, 0, 0, by rw [HPN.out.1]; rfl, by rw [HPN.out.2]; exact World.ownsRow_nil _ _ _ _, HBD.out⟩
    · have hkn : k = N := by omega
      rw [hkn] at hP
      have HPY := Lib.hid (pl_yes (l := l) (R := R) (n := N) (by rw [HPO.out]; exact hP.out))
      clear hkn
      go_wp2
      go_ret2
      exact ⟨A', n', c', by rw [HPY.out.1]; rfl, by rw [HPY.out.2]; exact hown, hB⟩

end Go.Proofs.Ytclkddehaomdjaa
