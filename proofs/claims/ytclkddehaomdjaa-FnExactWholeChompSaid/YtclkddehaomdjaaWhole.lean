/-
  Contracts: slices.Repeat on a slice of one number; WholeChomp of the model and of the program.
-/
import Derived.Test.YtclkddehaomdjaaChSum
import Derived.Test.YtclkddehaomdjaaReg
import Derived.Test.YtclkddehaomdjaaArr
import Derived.Laws.CopyOwn
namespace Go.Proofs.Ytclkddehaomdjaa
open Go.RowKit
set_option linter.unusedVariables false
set_option linter.unusedSimpArgs false

set_option maxRecDepth 100000 in
set_option maxHeartbeats 1000000 in
theorem mul64_any (h : Nat) (h1 : 1 ≤ h) (h6 : h ≤ 6) (w : World) :
    Calls Try.prog 84 #[.int .u64 1, .int .u64 (h : Int)] w fun e w' => e = .returned (.tuple #[.int .u64 0, .int .u64 (h : Int)]) ∧ w = w' := by
  obtain rfl | rfl | rfl | rfl | rfl | rfl : h = 1 ∨ h = 2 ∨ h = 3 ∨ h = 4 ∨ h = 5 ∨ h = 6 := by omega
  all_goals
    go_enter Try.func84, Try.ntmps84
    go_wp2
    go_ret2
    exact ⟨rfl, rfl⟩
set_option maxHeartbeats 1000000 in
theorem mul_any (h : Nat) (h1 : 1 ≤ h) (h6 : h ≤ 6) (w : World) :
    Calls Try.prog 76 #[.int .u64 1, .int .u64 (h : Int)] w fun e w' => e = .returned (.tuple #[.int .u64 0, .int .u64 (h : Int)]) ∧ w = w' := by
  have HM := Lib.hid (fun wx => mul64_any h h1 h6 wx)
  go_enter Try.func76, Try.ntmps76
  go_wp2_with fail
  refine (HM.out _).mono ?_; rintro e wx ⟨rfl, rfl⟩
  go_wp2
  go_ret2
  exact ⟨rfl, rfl⟩

/-- n copies, then noughts -/
def repC (v : Int) (n h : Nat) : List Value := intCells (List.replicate n v ++ List.replicate (h - n) 0)
theorem length_repC (v : Int) {n h : Nat} (hn : n ≤ h) : (repC v n h).length = h := by simp [repC, length_intCells]; omega
theorem splice_repC (v : Int) {n m h : Nat} (h1 : n + m ≤ h) : splice (repC v n h) n (intCells (List.replicate m v)) = repC v (n + m) h := by
  unfold splice repC
  simp only [intCells, List.map_append, List.map_replicate, List.length_replicate]
  rw [List.take_append_of_le_length (by simp), List.take_of_length_le (by simp)]
  rw [show List.drop (n + m) (List.replicate n (Value.int IntKind.i64 v) ++ List.replicate (h - n) (Value.int IntKind.i64 0)) = List.replicate (h - (n + m)) (Value.int IntKind.i64 0) by
    rw [List.drop_append]
    rw [List.drop_of_length_le (by simp), List.nil_append, List.drop_replicate, List.length_replicate]
    congr 1
    omega]
  rw [← List.append_assoc, List.replicate_append_replicate]
theorem repC_head (v : Int) {n h : Nat} (hn : n ≤ h) (j : Nat) (u : Value) {m : Nat} (hm : m ≤ n) (hj : (intCells (List.replicate m v))[j]? = some u) : (repC v n h)[j]? = some u := by
  have hjl := (List.getElem?_eq_some_iff.1 hj).1
  rw [length_intCells, List.length_replicate] at hjl
  unfold repC intCells at *
  rw [List.getElem?_map, List.getElem?_append_left (by simp; omega), List.getElem?_replicate, if_pos (by omega)]
  rw [List.getElem?_map, List.getElem?_replicate, if_pos hjl] at hj
  exact hj

set_option maxRecDepth 100000 in
set_option maxHeartbeats 2000000 in
theorem repeat_any (v : Int) (h : Nat) (h1 : 1 ≤ h) (h6 : h ≤ 6) (A : Option Addr) (c : Nat) (w : World) (hr : Rd w 1 A 1 (intCells [v])) :
    Calls Try.prog 52 #[.slice A 1 c, .int .i64 (h : Int)] w fun e w' => ∃ g, e = .returned (.slice (some ⟨g, 0, none⟩) h h) ∧ w'.ownsRow w.heap.size 3 1 (.slice (some ⟨g, 0, none⟩) h h) h (intCells (List.replicate h v)) ∧ Below w.heap.size w w' := by
  obtain ⟨i0, hi, hz0, hz1, hz2⟩ := info_parts int_info
  have hsz : (Try.prog.info? 3).map (·.size) = some 1 := by rw [hi]; simp [hz1]
  have HM := Lib.hid (fun wx => mul_any h h1 h6 wx)
  obtain ⟨b, o, rfl, hbl, hcc⟩ := hr.2 (by omega)
  have HCC := Lib.hid hcc
  clear hcc
  go_enter Try.func52, Try.ntmps52
  go_wp2_with fail
  refine (HM.out _).mono ?_; rintro e wx ⟨rfl, rfl⟩
  go_wp2_with (at_make; refine wpList_make_full _ rfl (.tmp 29) (.tmp 29) 22 rfl w.heap.size 3 i0 (.int .i64 0) 1 Try.underlying22 hi hz0 hz1 .i64 .i64 _ _ h rfl rfl rfl rfl ?b2 ?b3 (Nat.le_refl _) ?_)
  case b2 => rw [hz2]; omega
  case b3 => simp only [maxLen]; omega
  intro wt hownT hgrowT
  have hbT : Below w.heap.size w wt := (Below.refl _ _).grown hgrowT (Nat.le_refl _) (fun k hk => by cases hk)
  have hrow : wt.heap[w.heap.size]? = some (.cells (repC v 0 h).toArray 3 (0, 0)) := by
    rcases hownT.2 with ⟨e, _⟩ | ⟨g, cap, cur, e, _, hg, _, _, hc, hx⟩
    · cases e
    · cases e
      rw [hg]
      simp only [Nat.mul_one] at hx hc
      have e2 : cur = (repC v 0 h).toArray := by
        apply Array.ext'
        rw [← List.take_of_length_le (l := cur.toList) (i := h) (by simp; omega), hx]
        have e3 : (madeCells #[Value.int IntKind.i64 0] h).toList = intCells (List.replicate h 0) := by
          rw [toList_madeCells_one]
          unfold intCells
          rw [List.map_replicate]
        show _ = repC v 0 h
        simp only [repC, List.replicate_zero, List.nil_append, Nat.sub_zero]
        exact e3
      rw [e2]
  have HRW := Lib.hid hrow
  have HBT := Lib.hid hbT
  have HCT : Hid (∀ j u, (intCells (List.replicate 1 v))[j]? = some u → wt.cell? ((⟨b, o, none⟩ : Addr).add j) = some u) := fun j u hj => by
    have q := (hbT.cell (p := ⟨b, o + j, none⟩) hbl).trans (HCC.out j u hj)
    have hjl := (List.getElem?_eq_some_iff.1 hj).1
    rw [length_intCells, List.length_replicate] at hjl
    obtain rfl : j = 0 := by omega
    exact q
  have sT := (hownT.lt w.heap.size rfl).2
  have hcl : ∀ m, (intCells (List.replicate m v)).length = m := fun m => by rw [length_intCells, List.length_replicate]
  have hmin1 : (intCells (List.replicate 1 v)).length = Nat.min 1 h := by rw [hcl]; exact (Nat.min_eq_left h1).symm
  have hfit1 : 0 + (intCells (List.replicate 1 v)).length ≤ (repC v 0 h).length := by rw [hcl, length_repC v (Nat.zero_le _)]; omega
  have HCL := Lib.hid hcl
  clear hcl
  clear hownT hgrowT hrow hbT
  go_wp2_with (refine wpList_copy_splice rfl (.tmp 31) (.tmp 32) 22 22 rfl 3 Try.underlying22 hsz _ _ _ _ _ _ rfl rfl w.heap.size 0 (repC v 0 h) 3 HRW.out (intCells (List.replicate 1 v)) hmin1 (fun _ => ⟨rfl, _, rfl, HCT.out⟩) hfit1 (int_oneCell _) w.heap.size w HBT.out (Nat.le_refl _) ?_)
  intro w2 hg2 hb2
  have HG2 : Hid (w2.heap[w.heap.size]? = some (.cells (repC v 1 h).toArray 3 (0, 0))) := by
    have q : w2.heap[w.heap.size]? = some (.cells (splice (repC v 0 h) 0 (intCells (List.replicate 1 v))).toArray 3 (0, 0)) := hg2.out
    rw [splice_repC v (n := 0) (m := 1) (h := h) (by omega)] at q
    exact q
  have HB2 := Lib.hid hb2
  clear hg2 hb2 HRW HBT HCT hmin1 hfit1
  go_wp2
  go_loopw [8] (fun i wr => ∃ n : Nat, 1 ≤ n ∧ n ≤ h ∧ i = .int .i64 n ∧ Hid (wr.heap[w.heap.size]? = some (.cells (repC v n h).toArray 3 (0, 0))) ∧ Hid (Below w.heap.size w wr)) (fun i _ => h - (intOf i).toNat)
  case atStart => exact ⟨1, Nat.le_refl _, h1, rfl, HG2.out, HB2.out⟩
  case round =>
    obtain ⟨n, hn1, hn2, rfl, hg, hB⟩ := hrel
    by_cases hlt : n < h
    · obtain ⟨m, hm⟩ : ∃ m, m = Nat.min n (h - n) := ⟨_, rfl⟩
      have hmle : m ≤ n ∧ m ≤ h - n ∧ 1 ≤ m := by rw [hm]; exact ⟨Nat.min_le_left _ _, Nat.min_le_right _ _, by have := Nat.le_min.2 (show 1 ≤ n ∧ 1 ≤ h - n by omega); exact this⟩
      have hmin : (intCells (List.replicate m v)).length = Nat.min n (h - n) := by rw [HCL.out]; exact hm
      have hfit : n + (intCells (List.replicate m v)).length ≤ (repC v n h).length := by rw [HCL.out, length_repC v hn2]; omega
      have hsrc : ∀ j u, (intCells (List.replicate m v))[j]? = some u → wr.cell? ((⟨w.heap.size, 0, none⟩ : Addr).add j) = some u := fun j u hj => by
        have q := repC_head v hn2 j u hmle.1 hj
        have e : (⟨w.heap.size, 0, none⟩ : Addr).add j = ⟨w.heap.size, j, none⟩ := by
          simp only [Addr.add]
          split
          · rename_i h0; rw [h0]
          · rw [Nat.zero_add]
        rw [e]
        simp [World.cell?, hg.out, q]
      have HSRC := Lib.hid hsrc
      have HHM := Lib.hid hm
      have HWR : Hid (IntKind.i64.wrap ((n : Int) + (m : Int)) = ((n + m : Nat) : Int)) := (IntWalk.i64_in _ (by omega)).trans (by omega)
      clear hm hsrc
      go_wp2
      refine wp_region_held_drew (S := (fun _ => True)) (by kernel_rfl) ?_ (fun hHeld => ?_)
      · ((try dsimp only); (repeat' apply And.intro); all_goals ((repeat (first | (with_reducible refine cell_drew ?_) | (with_reducible refine cell_drewN _ ?_) | ((with_reducible refine cell_alloc ?_ ?_); · first | omega | (simp; done) | (simp; omega) | assumption) | ((with_reducible refine cell_set ?_ ?_); · first | (intro e; injection e; omega) | (intro e; simp at e; done) | (intro e; simp at e; omega)))); first | assumption | (simp; done)))
      refine reg_on (i := 0) (d := 38) (v := ?rv1) rfl rfl (by kernel_rfl) (by kernel_rfl) (by kernel_rfl) (fun _ _ _ h => h) (by rfl) ?ry1 (by assumption) ?rr1
      case ry1 => (intro wz hSw; (try dsimp only at hSw); go_simp; try with_reducible rfl)
      (try simp only [Act.put, List.setIfInBounds_toArray, List.set_cons_zero, List.set_cons_succ])
      refine reg_on (i := 1) (d := 39) (v := ?rv2) rfl rfl (by kernel_rfl) (by kernel_rfl) (by kernel_rfl) (fun _ _ _ h => h) (by rfl) ?ry2 (by assumption) ?rr2
      case ry2 => (intro wz hSw; (try dsimp only at hSw); go_simp; try with_reducible rfl)
      (try simp only [Act.put, List.setIfInBounds_toArray, List.set_cons_zero, List.set_cons_succ])
      refine reg_on (i := 2) (d := 40) (v := ?rv3) rfl rfl (by kernel_rfl) (by kernel_rfl) (by kernel_rfl) (fun _ _ _ h => h) (by rfl) ?ry3 (by assumption) ?rr3
      case ry3 => (intro wz hSw; (try dsimp only at hSw); go_simp; try with_reducible rfl)
      (try simp only [Act.put, List.setIfInBounds_toArray, List.set_cons_zero, List.set_cons_succ])
      refine reg_on (i := 3) (d := 41) (v := ?rv4) rfl rfl (by kernel_rfl) (by kernel_rfl) (by kernel_rfl) (fun _ _ _ h => h) (by rfl) ?ry4 (by assumption) ?rr4
      case ry4 => (intro wz hSw; (try dsimp only at hSw); go_simp; try with_reducible rfl)
      (try simp only [Act.put, List.setIfInBounds_toArray, List.set_cons_zero, List.set_cons_succ])
      refine reg_on (i := 4) (d := 42) (v := ?rv5) rfl rfl (by kernel_rfl) (by kernel_rfl) (by kernel_rfl) (fun _ _ _ h => h) (by rfl) ?ry5 (by assumption) ?rr5
      case ry5 => (intro wz hSw; (try dsimp only at hSw); go_simp; try with_reducible rfl)
      (try simp only [Act.put, List.setIfInBounds_toArray, List.set_cons_zero, List.set_cons_succ])
      refine reg_on (i := 5) (d := 43) (v := ?rv6) rfl rfl (by kernel_rfl) (by kernel_rfl) (by kernel_rfl) (fun _ _ _ h => h) (by rfl) ?ry6 (by assumption) ?rr6
      case ry6 => (intro wz hSw; (try dsimp only at hSw); go_simp; try with_reducible rfl)
      (try simp only [Act.put, List.setIfInBounds_toArray, List.set_cons_zero, List.set_cons_succ])
      refine reg_on (i := 6) (d := 44) (v := ?rv7) rfl rfl (by kernel_rfl) (by kernel_rfl) (by kernel_rfl) (fun _ _ _ h => h) (by rfl) ?ry7 (by assumption) ?rr7
      case ry7 => (intro wz hSw; (try dsimp only at hSw); go_simp; try with_reducible rfl)
      (try simp only [Act.put, List.setIfInBounds_toArray, List.set_cons_zero, List.set_cons_succ])
      refine wpAnyH_ready (rs := [7]) (by kernel_rfl) (by simp) ?_
      refine AllReadyH.cons rfl (fun K hK => ?_) AllReadyH.nil
      refine step_copy_splice rfl (.tmp 41) (.tmp 44) 22 22 rfl 3 Try.underlying22 hsz _ _ _ _ _ _ rfl rfl w.heap.size n (repC v n h) 3 (by exact hg.out) (intCells (List.replicate m v)) hmin (fun _ => ⟨if_neg (by omega), _, rfl, by exact HSRC.out⟩) hfit (int_oneCell _) w.heap.size w (by exact hB.out.drew) (Nat.le_refl _) ?_; intro w4 hg4 hb4
      refine hK.out _ _ ?_ (fun hHeld => ?_)
      · ((try dsimp only); (repeat' apply And.intro); all_goals ((repeat (first | (with_reducible refine cell_drew ?_) | (with_reducible refine cell_drewN _ ?_) | ((with_reducible refine cell_alloc ?_ ?_); · first | omega | (simp; done) | (simp; omega) | assumption) | ((with_reducible refine cell_set ?_ ?_); · first | (intro e; injection e; omega) | (intro e; simp at e; done) | (intro e; simp at e; omega)))); first | assumption | (simp; done)))
      clear hK K
      (try simp only [Act.put, List.setIfInBounds_toArray, List.set_cons_zero, List.set_cons_succ])
      refine reg_on (i := 8) (d := 46) (v := ?rv9) rfl rfl (by kernel_rfl) (by kernel_rfl) (by kernel_rfl) (fun _ _ _ h => h) (by rfl) ?ry9 (by assumption) ?rr9
      case ry9 => (intro wz hSw; (try dsimp only at hSw); go_simp; try with_reducible rfl)
      (try simp only [Act.put, List.setIfInBounds_toArray, List.set_cons_zero, List.set_cons_succ])
      refine reg_on (i := 9) (d := 8) (v := ?rv10) rfl rfl (by kernel_rfl) (by kernel_rfl) (by kernel_rfl) (fun _ _ _ h => h) (by rfl) ?ry10 (by assumption) ?rr10
      case ry10 => (intro wz hSw; (try dsimp only at hSw); go_simp; try with_reducible rfl)
      (try simp only [Act.put, List.setIfInBounds_toArray, List.set_cons_zero, List.set_cons_succ])
      refine wpAnyH_done (by kernel_rfl) ?_ _
      have HG4 : Hid (w4.heap[w.heap.size]? = some (.cells (repC v (n + m) h).toArray 3 (0, 0))) := by
        have q : w4.heap[w.heap.size]? = some (.cells (splice (repC v n h) n (intCells (List.replicate m v))).toArray 3 (0, 0)) := hg4.out
        rw [splice_repC v (n := n) (m := m) (h := h) (by omega)] at q
        exact q
      have HB4 := Lib.hid hb4
      clear hg4 hb4
      go_wp2
      go_roundw
      case rel => exact ⟨n + m, by omega, by omega, by rw [← HHM.out]; exact HWR.out, HG4⟩
      case measure => rw [← HHM.out]; simp only [intOf, HWR.out]; simp; omega
    · have hnh : n = h := by omega
      subst hnh
      have P : Hid (wr.ownsRow w.heap.size 3 1 (.slice (some ⟨w.heap.size, 0, none⟩) n n) n (intCells (List.replicate n v))) := by
        refine ⟨by rw [HCL.out, Nat.mul_one], .inr ⟨w.heap.size, n, _, rfl, Nat.le_refl _, hg.out, Nat.le_refl _, by simp only [maxLen]; omega, by simp [length_repC], ?_⟩⟩
        rw [List.take_of_length_le (by simp [length_repC])]
        simp [repC]
      go_wp2
      go_ret
      exact ⟨w.heap.size, rfl, P.out, hB.out⟩

def sideB (x : Int) : Bool := decide (1 ≤ x ∧ x ≤ 6)
set_option maxHeartbeats 400000 in
theorem isChompSide_any (x : Int) (w : World) :
    Calls Try.prog 51 #[.int .i64 x] w fun e w' => e = .returned (.bool (sideB x)) ∧ w = w' := by
  by_cases h1 : 1 ≤ x <;> by_cases h2 : x ≤ 6
  all_goals
    go_enter Try.func51, Try.ntmps51
    go_wp2
    go_ret
    exact ⟨by simp [sideB, h1, h2], rfl⟩
set_option maxHeartbeats 400000 in
theorem cmSides_any (x y : Int) (w : World) :
    Calls Try.prog 50 #[.int .i64 x, .int .i64 y] w fun e w' => e = .returned (.bool (sideB x && sideB y)) ∧ w = w' := by
  have e1 : inB x 1 6 = sideB x := rfl
  have e2 : inB y 1 6 = sideB y := rfl
  cases h1 : sideB x
  · rw [h1] at e1
    go_enter Try.func50, Try.ntmps50
    go_wp2_with fail
    refine (l1In_any _ _ _ _).mono ?_; rintro e wx ⟨rfl, rfl⟩
    rw [e1]
    go_wp2
    go_ret
    exact ⟨rfl, rfl⟩
  · rw [h1] at e1
    go_enter Try.func50, Try.ntmps50
    go_wp2_with fail
    refine (l1In_any _ _ _ _).mono ?_; rintro e wx ⟨rfl, rfl⟩
    rw [e1]
    go_wp2_with fail
    refine (l1In_any _ _ _ _).mono ?_; rintro e wx ⟨rfl, rfl⟩
    rw [e2]
    go_wp2
    go_ret
    exact ⟨by simp, rfl⟩

theorem sides_nat {x y : Int} (h : (sideB x && sideB y) = true) : ∃ a b : Nat, x = a ∧ y = b ∧ 1 ≤ a ∧ a ≤ 6 ∧ 1 ≤ b ∧ b ≤ 6 := by
  simp only [sideB, Bool.and_eq_true, decide_eq_true_eq] at h
  exact ⟨x.toNat, y.toNat, by omega, by omega, by omega, by omega, by omega, by omega⟩


/-- what WholeChomp returns -/
def wholeR (x y : Int) : List Int := if (sideB x && sideB y) = true then List.replicate y.toNat x else []
theorem length_wholeR (x y : Int) : (wholeR x y).length ≤ 6 := by
  unfold wholeR
  by_cases h : (sideB x && sideB y) = true
  · rw [if_pos h]
    obtain ⟨a, b, rfl, rfl, h1, h2, h3, h4⟩ := sides_nat h
    simpa using h4
  · rw [if_neg h]; simp
theorem wholeR_no {x y : Int} (h : (sideB x && sideB y) = false) : wholeR x y = [] := by simp [wholeR, h]
theorem wholeR_yes {W H : Nat} (h : (sideB (W : Int) && sideB (H : Int)) = true) : wholeR W H = List.replicate H (W : Int) := by simp only [wholeR, h, if_true, Int.toNat_natCast]

set_option maxRecDepth 100000 in
set_option maxHeartbeats 2000000 in
theorem sWholeChomp_any (x y : Int) (w : World) :
    Calls Try.prog 19 #[.int .i64 x, .int .i64 y] w fun e w' => ∃ A' n' c', e = .returned (.tuple #[.slice A' n' c', .bool (sideB x && sideB y)]) ∧ w'.ownsRow w.heap.size 3 1 (.slice A' n' c') n' (intCells (wholeR x y)) ∧ Below w.heap.size w w' := by
  cases h : (sideB x && sideB y)
  · rw [wholeR_no h]
    go_enter Try.func19, Try.ntmps19
    go_wp2_with fail
    refine (cmSides_any _ _ _).mono ?_; rintro e wx ⟨rfl, rfl⟩
    rw [h]
    go_wp2
    go_ret2
    exact ⟨none, 0, 0, rfl, World.ownsRow_nil _ _ _ _, Below.refl _ _⟩
  · obtain ⟨i0, hi, hz0, hz1, hz2⟩ := info_parts int_info
    obtain ⟨W, H, rfl, rfl, h1, h2, h3, h4⟩ := sides_nat h
    rw [wholeR_yes h]
    go_enter Try.func19, Try.ntmps19
    go_wp2_with fail
    refine (cmSides_any _ _ _).mono ?_; rintro e wx ⟨rfl, rfl⟩
    rw [h]
    go_wp2
    go_loopw [1, 6] (fun i v wr => ∃ (k : Nat) (A' : Option Addr) (c' : Nat), k ≤ H ∧ i = .int .i64 ((H - k : Nat) : Int) ∧ v = .slice A' k c' ∧ wr.ownsRow w.heap.size 3 1 (.slice A' k c') k (intCells (List.replicate k (W : Int))) ∧ Below w.heap.size w wr) (fun i _ _ => (intOf i).toNat)
    case atStart => exact ⟨0, none, 0, Nat.zero_le _, rfl, rfl, World.ownsRow_nil _ _ _ _, Below.refl _ _⟩
    case round =>
      obtain ⟨k, A', c', hk, rfl, rfl, hown, hB⟩ := hrel
      have sB := hB.size
      by_cases hlt : k < H
      · obtain ⟨r, hr⟩ : ∃ r : Nat, H - k = r := ⟨_, rfl⟩
        have hr1 : 1 ≤ r := by omega
        have hr6 : r ≤ 6 := by omega
        have HRR : Hid (H - (k + 1) = r - 1) := by simp only [Hid]; omega
        rw [hr]
        have hc3 : k + 1 ≤ maxLen := by simp only [maxLen]; omega
        have HOW := Lib.hid hown
        have HBB := Lib.hid hB
        have HOA := Lib.hid (own_alloc hown (.cells #[.int .i64 (W : Int)] 3))
        clear hown hB hr
        go_wp2_with (at_builtin; refine wpList_append_own _ rfl (.tmp 15) (.tmp 17) 22 rfl w.heap.size 3 i0 (.int .i64 0) 1 8 Try.underlying22 hi hz0 hz1 hz2 rfl (by decide) _ _ _ rfl HOA.out ⟨wr.heap.size, 0, none⟩ 1 1 [.int .i64 (W : Int)] rfl rfl (new1 _ _ _) (int_oneCell [(W : Int)]) hc3 (by omega) (Nat.le_trans sB (by simp)) ?_)
        intro v' w2 hown' hgrow _
        obtain ⟨A2, c2', rfl⟩ := own_slice hown'
        have hb2 : Below w.heap.size w w2 := gb_new (Nat.le_refl _) (HBB.out.alloc sB (.cells #[.int .i64 (W : Int)] 3)) hgrow (fun g hg => (HOW.out.lt g hg).1)
        have P := Lib.hid (show w2.ownsRow w.heap.size 3 1 (.slice A2 (k + 1) c2') (k + 1) (intCells (List.replicate (k + 1) (W : Int))) ∧ Below w.heap.size w w2 from ⟨by
          rw [List.replicate_succ', intCells_append]; exact hown', hb2⟩)
        clear hown' hgrow hb2 HOW HBB HOA hc3
        go_wp2
        go_roundw
        case rel => exact ⟨k + 1, A2, c2', by omega, by rw [HRR.out]; go_num, rfl, P.out⟩
        case measure => simp [intOf]; omega
      · have hkn : k = H := by omega
        subst hkn
        rw [Nat.sub_self]
        go_wp2
        go_ret2
        exact ⟨A', k, c', rfl, hown, hB⟩

set_option maxRecDepth 100000 in
set_option maxHeartbeats 2000000 in
theorem wholeChomp_any (x y : Int) (w : World) :
    Calls Try.prog 20 #[.int .i64 x, .int .i64 y] w fun e w' => ∃ A' n' c', e = .returned (.tuple #[.slice A' n' c', .bool (sideB x && sideB y)]) ∧ w'.ownsRow w.heap.size 3 1 (.slice A' n' c') n' (intCells (wholeR x y)) ∧ Below w.heap.size w w' := by
  cases h : (sideB x && sideB y)
  · rw [wholeR_no h]
    cases h1 : sideB x
    · go_enter Try.func20, Try.ntmps20
      go_wp2_with fail
      refine (isChompSide_any _ _).mono ?_; rintro e wx ⟨rfl, rfl⟩
      rw [h1]
      go_wp2
      go_ret2
      exact ⟨none, 0, 0, rfl, World.ownsRow_nil _ _ _ _, Below.refl _ _⟩
    · have h2 : sideB y = false := by simpa [h1] using h
      go_enter Try.func20, Try.ntmps20
      go_wp2_with fail
      refine (isChompSide_any _ _).mono ?_; rintro e wx ⟨rfl, rfl⟩
      rw [h1]
      go_wp2_with fail
      refine (isChompSide_any _ _).mono ?_; rintro e wx ⟨rfl, rfl⟩
      rw [h2]
      go_wp2
      go_ret2
      exact ⟨none, 0, 0, rfl, World.ownsRow_nil _ _ _ _, Below.refl _ _⟩
  · have hx : sideB x = true := by simp only [Bool.and_eq_true] at h; exact h.1
    have hy : sideB y = true := by simp only [Bool.and_eq_true] at h; exact h.2
    obtain ⟨W, H, rfl, rfl, h1, h2, h3, h4⟩ := sides_nat h
    rw [wholeR_yes h]
    have hRP : Rd (w.alloc (.cells #[.int .i64 (W : Int)] 3)) 1 (some ⟨w.heap.size, 0, none⟩) 1 (intCells [(W : Int)]) := Rd.of_own (own_new w 3 1 1 #[.int .i64 (W : Int)] rfl (by omega) (B := 0) (Nat.zero_le _))
    have HRP := Lib.hid (repeat_any (W : Int) H h3 h4 (some ⟨w.heap.size, 0, none⟩) 1 _ hRP)
    have HBA : Hid (Below w.heap.size w (w.alloc (.cells #[.int .i64 (W : Int)] 3))) := (Below.refl _ _).alloc (Nat.le_refl _) _
    clear h hRP
    go_enter Try.func20, Try.ntmps20
    go_wp2_with fail
    refine (isChompSide_any _ _).mono ?_; rintro e wx ⟨rfl, rfl⟩
    rw [hx]
    go_wp2_with fail
    refine (isChompSide_any _ _).mono ?_; rintro e wx ⟨rfl, rfl⟩
    rw [hy]
    go_wp2_with fail
    refine (HRP.out).mono ?_; rintro e w2 ⟨g, rfl, ho, hb2⟩
    have HO := Lib.hid (own_base ho HBA.out.size)
    have HB2 := Lib.hid (HBA.out.trans (hb2.mono HBA.out.size))
    clear ho hb2 HRP
    go_wp2
    go_ret2
    exact ⟨some ⟨g, 0, none⟩, H, H, rfl, HO.out, HB2.out⟩

end Go.Proofs.Ytclkddehaomdjaa
