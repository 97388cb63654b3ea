/-
  Proved: for every puzzle and clue the law's calls of AddClue answer as the model does, in memory of their own, and leave the arguments alone. Conditions: none.
-/
import Derived.Test.YtghlgmbekgfmnaaPzE
import Derived.Test.YtghlgmbekgfmnaaPzI
import Derived.Test.YtghlgmbekgfmnaaCluK
import Derived.Test.YtghlgmbekgfmnaaPuzO
import Derived.Test.YtghlgmbekgfmnaaFacts
import Derived.ProofKit
import Derived.OpenShut
import Derived.Lib.SmallJoins
namespace Go.Proofs.Ytghlgmbekgfmnaa.lawAddClue
open Go.ChangeShapes Go.WideShapes Go.ChangeAt Go.RowKit Go.Joins Go.Deep
set_option linter.unusedVariables false

set_option maxRecDepth 100000 in
set_option maxHeartbeats 4000000 in
theorem walk (A_aP : Option Addr) (n_aP c_aP : Nat) (l_aP : List (Int × Int × Int)) (x_aC y_aC z_aC : Int) (w : World) (rd_aP : Rd w 3 A_aP n_aP (boxCells l_aP)) (hn_aP : n_aP ≤ maxLen) (wx_aC : (Lit.int .i64 x_aC).wf = true) (wy_aC : (Lit.int .i64 y_aC).wf = true) (wz_aC : (Lit.int .i64 z_aC).wf = true) :
    Calls Try.prog 13 #[.agg #[.slice A_aP n_aP c_aP], bx3 x_aC y_aC z_aC] w fun e w' => e = .returned (.bool true) ∧ Below w.heap.size w w' := by
  clear wx_aC wy_aC wz_aC
  go_enter Try.func13, Try.ntmps13
  have bw0 : Below w.heap.size w w := Below.refl _ _
  obtain ⟨w1, hw1⟩ : ∃ wm, wm = w.alloc (.cells #[.slice A_aP n_aP c_aP] 30) := ⟨_, rfl⟩
  have hb1 : Below w.heap.size w w1 := by rw [hw1]; exact (Below.refl _ _).alloc (Nat.le_refl _) _
  have cs0_0_1 : w1.cell? ⟨w.heap.size, 0, none⟩ = some (.slice A_aP n_aP c_aP) := by rw [hw1]; simp [go_sem]
  have s1 : w.heap.size + 1 ≤ w1.heap.size := by rw [hw1]; simp
  have HW1 := Lib.hid hw1; clear hw1
  have bw1 : Below w.heap.size w w1 := bcall bw0.size hb1 bw0
  have q1 := bw1.size
  have zs0_1 : w.heap.size < w1.heap.size := by omega
  have cx1_0_0 : (w.alloc (.cells #[.slice A_aP n_aP c_aP] 30)).cell? ⟨w.heap.size, 0, none⟩ = some (.slice A_aP n_aP c_aP) := by rw [← HW1.out]; exact cs0_0_1
  obtain ⟨w2, hw2⟩ : ∃ wm, wm = w1.alloc (.cells #[.int .i64 x_aC, .int .i64 y_aC, .int .i64 z_aC] 23) := ⟨_, rfl⟩
  have hb2 : Below w1.heap.size w1 w2 := by rw [hw2]; exact (Below.refl _ _).alloc (Nat.le_refl _) _
  have cs1_0_2 : w2.cell? ⟨w1.heap.size, 0, none⟩ = some (.int .i64 x_aC) := by rw [hw2]; simp [go_sem]
  have cs1_1_2 : w2.cell? ⟨w1.heap.size, 1, none⟩ = some (.int .i64 y_aC) := by rw [hw2]; simp [go_sem]
  have cs1_2_2 : w2.cell? ⟨w1.heap.size, 2, none⟩ = some (.int .i64 z_aC) := by rw [hw2]; simp [go_sem]
  have s2 : w1.heap.size + 1 ≤ w2.heap.size := by rw [hw2]; simp
  have HW2 := Lib.hid hw2; clear hw2
  have bw2 : Below w.heap.size w w2 := bcall bw1.size hb2 bw1
  have q2 := bw2.size
  have cs0_0_2 := (hb2.cell (p := ⟨w.heap.size, 0, none⟩) (by show w.heap.size < w1.heap.size; omega)).trans cs0_0_1; clear cs0_0_1
  have zs0_2 : w.heap.size < w2.heap.size := by omega
  have zs1_2 : w1.heap.size < w2.heap.size := by omega
  have cx2_0_0 : (w1.alloc (.cells #[.int .i64 x_aC, .int .i64 y_aC, .int .i64 z_aC] 23)).cell? ⟨w.heap.size, 0, none⟩ = some (.slice A_aP n_aP c_aP) := by rw [← HW2.out]; exact cs0_0_2
  have cx2_1_0 : (w1.alloc (.cells #[.int .i64 x_aC, .int .i64 y_aC, .int .i64 z_aC] 23)).cell? ⟨w1.heap.size, 0, none⟩ = some (.int .i64 x_aC) := by rw [← HW2.out]; exact cs1_0_2
  have cx2_1_1 : (w1.alloc (.cells #[.int .i64 x_aC, .int .i64 y_aC, .int .i64 z_aC] 23)).cell? ⟨w1.heap.size, 1, none⟩ = some (.int .i64 y_aC) := by rw [← HW2.out]; exact cs1_1_2
  have cx2_1_2 : (w1.alloc (.cells #[.int .i64 x_aC, .int .i64 y_aC, .int .i64 z_aC] 23)).cell? ⟨w1.heap.size, 2, none⟩ = some (.int .i64 z_aC) := by rw [← HW2.out]; exact cs1_2_2
  by_cases hn2_aP : n_aP ≤ 1048576
  case neg =>
    go_wp2_with fail
    rw [← HW1.out, ← HW2.out]
    refine (szPuzzle_no _ _ _ _ hn_aP hn2_aP).mono ?_; rintro e wx ⟨rfl, hbx⟩
    have hbz := bcall bw2.size hbx bw2
    go_wp2
    go_ret
    exact ⟨rfl, hbz⟩
  go_wp2_with fail
  rw [← HW1.out, ← HW2.out]
  refine (szPuzzle_yes _ _ _ _ hn2_aP).mono ?_; rintro e w3 ⟨rfl, hb3⟩; have s3 := hb3.size
  have bw3 : Below w.heap.size w w3 := bcall bw2.size hb3 bw2
  have q3 := bw3.size
  have cs0_0_3 := (hb3.cell (p := ⟨w.heap.size, 0, none⟩) (by show w.heap.size < w2.heap.size; omega)).trans cs0_0_2; clear cs0_0_2
  have zs0_3 : w.heap.size < w3.heap.size := by omega
  have cs1_0_3 := (hb3.cell (p := ⟨w1.heap.size, 0, none⟩) (by show w1.heap.size < w2.heap.size; omega)).trans cs1_0_2; clear cs1_0_2
  have cs1_1_3 := (hb3.cell (p := ⟨w1.heap.size, 1, none⟩) (by show w1.heap.size < w2.heap.size; omega)).trans cs1_1_2; clear cs1_1_2
  have cs1_2_3 := (hb3.cell (p := ⟨w1.heap.size, 2, none⟩) (by show w1.heap.size < w2.heap.size; omega)).trans cs1_2_2; clear cs1_2_2
  have zs1_3 : w1.heap.size < w3.heap.size := by omega
  have ew1 : w1.heap.size = w.heap.size + 1 := by rw [HW1.out]; simp
  have cv3_0 : w3.cell? ⟨w.heap.size + 1, 0, none⟩ = some (.int .i64 x_aC) := by rw [← ew1]; exact cs1_0_3
  have cv3_1 : w3.cell? ⟨w.heap.size + 1, 1, none⟩ = some (.int .i64 y_aC) := by rw [← ew1]; exact cs1_1_3
  have cv3_2 : w3.cell? ⟨w.heap.size + 1, 2, none⟩ = some (.int .i64 z_aC) := by rw [← ew1]; exact cs1_2_3
  go_wp2
  refine tail_once (α := World × Nat × Option Addr × Nat × Nat) (fun x t => ((((((((((t.setIfInBounds 22 (.agg #[.slice A_aP n_aP c_aP])).setIfInBounds 23 (.agg #[.slice (some ⟨x.2.1, 0, none⟩) n_aP n_aP])).setIfInBounds 24 (bx3 x_aC y_aC z_aC)).setIfInBounds 25 (bx3 x_aC y_aC z_aC)).setIfInBounds 26 (.tuple #[.agg #[.slice x.2.2.1 x.2.2.2.1 x.2.2.2.2], .bool (addB l_aP (x_aC, y_aC, z_aC))])).setIfInBounds 21 (.tuple #[.agg #[.slice x.2.2.1 x.2.2.2.1 x.2.2.2.2], .bool (addB l_aP (x_aC, y_aC, z_aC))])).setIfInBounds 27 (.agg #[.slice x.2.2.1 x.2.2.2.1 x.2.2.2.2])).setIfInBounds 28 (.bool (addB l_aP (x_aC, y_aC, z_aC)))).setIfInBounds 6 (.pointer (some ⟨x.1.heap.size, 0, none⟩))).setIfInBounds 7 (.bool (addB l_aP (x_aC, y_aC, z_aC))))) (fun x w' => RegR w3 25 (boxCells (addR l_aP (x_aC, y_aC, z_aC))) x.1 x.2.2.1 x.2.2.2.1 x.2.2.2.2 w') ?_ (fun TAIL => ?_)
  rotate_left
  · dsimp only at TAIL
    (try simp only [List.setIfInBounds_toArray, List.set_cons_zero, List.set_cons_succ] at TAIL)
    refine wp_region_held_drew (S := (fun w' => w'.cell? ⟨w.heap.size, 0, none⟩ = some (.slice A_aP n_aP c_aP) ∧ w'.cell? ⟨w.heap.size + 1, 0, none⟩ = some (.int .i64 x_aC) ∧ w'.cell? ⟨w.heap.size + 1, 1, none⟩ = some (.int .i64 y_aC) ∧ w'.cell? ⟨w.heap.size + 1, 2, none⟩ = some (.int .i64 z_aC))) (by kernel_rfl) ?_ (fun hHeld => ?_)
    · ((try dsimp only); (repeat' apply And.intro); all_goals ((repeat (first | (with_reducible refine cell_drew ?_) | (with_reducible refine cell_drewN _ ?_) | ((with_reducible refine cell_alloc ?_ ?_); · first | omega | (simp; done) | (simp; omega) | assumption) | ((with_reducible refine cell_set ?_ ?_); · first | (intro e; injection e; omega) | (intro e; simp at e; done) | (intro e; simp at e; omega)))); first | assumption | (simp; done)))
    refine reg_on (i := 0) (d := 22) (v := ?rv1) rfl rfl (by kernel_rfl) (by kernel_rfl) (by kernel_rfl) (fun _ _ _ h => h) (by rfl) ?ry1 (by assumption) ?rr1
    case ry1 => (intro wz hSw; (try dsimp only at hSw); go_simp; try with_reducible rfl)
    (try simp only [Act.put, List.setIfInBounds_toArray, List.set_cons_zero, List.set_cons_succ])
    refine reg_on (i := 2) (d := 24) (v := ?rv2) rfl rfl (by kernel_rfl) (by kernel_rfl) (by kernel_rfl) (fun _ _ _ h => h) (by rfl) ?ry2 (by assumption) ?rr2
    case ry2 => (intro wz hSw; (try dsimp only at hSw); go_simp; try with_reducible rfl)
    (try simp only [Act.put, List.setIfInBounds_toArray, List.set_cons_zero, List.set_cons_succ])
    refine wpAnyH_ready (rs := [1, 8]) (by kernel_rfl) (by simp) ?_
    refine AllReadyH.cons rfl (fun K hK => ?_) (AllReadyH.cons rfl (fun K hK => ?_) (AllReadyH.nil))
    ·
      go_simp
      go_at_call 23; refine (toPuzzle_any _ _ _ l_aP _ (Rd.later (rd_aP.later bw3 (Nat.le_refl _)) (by first | exact (Below.refl w3.heap.size w3) | exact (Below.refl w3.heap.size w3).drew | exact ((Below.refl w3.heap.size w3).alloc (Below.refl w3.heap.size w3).size _) | exact ((Below.refl w3.heap.size w3).alloc (Below.refl w3.heap.size w3).size _).drew) (Nat.le_refl _)) hn2_aP).mono ?_; rintro e wa ⟨gs, rfl, ogs, hba⟩; have hBA := bcall2 hba (a := w3) (by first | exact (Below.refl w3.heap.size w3) | exact (Below.refl w3.heap.size w3).drew | exact ((Below.refl w3.heap.size w3).alloc (Below.refl w3.heap.size w3).size _) | exact ((Below.refl w3.heap.size w3).alloc (Below.refl w3.heap.size w3).size _).drew); have sa := hBA.size; have sa2 := hba.size; (try simp at sa2); (first | (refine have bxc : wa.cell? ⟨w3.heap.size, 0, none⟩ = some (.slice none 0 0) := ?bxp; ?_; (case bxp => (refine (hba.cell (p := ⟨w3.heap.size, 0, none⟩) ?_).trans ?_ <;> (simp [go_sem]; done))); (refine have bxf : wa.frozen? ⟨w3.heap.size, 0, none⟩ = false := ?bxp; ?_); (case bxp => (refine (hba.frozen (p := ⟨w3.heap.size, 0, none⟩) ?_).trans ?_ <;> (simp [go_sem]; done)))) | skip); have da_0 : wa.cell? ⟨w.heap.size, 0, none⟩ = some (.slice A_aP n_aP c_aP) := (hBA.cell (p := ⟨w.heap.size, 0, none⟩) (by first | omega | (simp; omega))).trans (by first | assumption | (go_split_ands; assumption)); have da_1 : wa.cell? ⟨w.heap.size + 1, 0, none⟩ = some (.int .i64 x_aC) := (hBA.cell (p := ⟨w.heap.size + 1, 0, none⟩) (by first | omega | (simp; omega))).trans (by first | assumption | (go_split_ands; assumption)); have da_2 : wa.cell? ⟨w.heap.size + 1, 1, none⟩ = some (.int .i64 y_aC) := (hBA.cell (p := ⟨w.heap.size + 1, 1, none⟩) (by first | omega | (simp; omega))).trans (by first | assumption | (go_split_ands; assumption)); have da_3 : wa.cell? ⟨w.heap.size + 1, 2, none⟩ = some (.int .i64 z_aC) := (hBA.cell (p := ⟨w.heap.size + 1, 2, none⟩) (by first | omega | (simp; omega))).trans (by first | assumption | (go_split_ands; assumption))
      refine hK.out _ _ ?_ (fun hHeld => ?_)
      · ((try dsimp only); (repeat' apply And.intro); all_goals ((repeat (first | (with_reducible refine cell_drew ?_) | (with_reducible refine cell_drewN _ ?_) | ((with_reducible refine cell_alloc ?_ ?_); · first | omega | (simp; done) | (simp; omega) | assumption) | ((with_reducible refine cell_set ?_ ?_); · first | (intro e; injection e; omega) | (intro e; simp at e; done) | (intro e; simp at e; omega)))); first | assumption | (simp; done)))
      clear hK K
      (try simp only [Act.put, List.setIfInBounds_toArray, List.set_cons_zero, List.set_cons_succ])
      refine wpAnyH_ready (rs := [3, 8]) (by kernel_rfl) (by simp) ?_
      refine AllReadyH.cons rfl (fun K hK => ?_) (AllReadyH.cons rfl (fun K hK => ?_) (AllReadyH.nil))
      ·
        go_simp
        go_at_call 19; refine (toClue_any _ _ _ _).mono ?_; rintro e wb ⟨rfl, hbb⟩; have hBB := bcall2 hbb (a := w3) (by first | exact hBA | exact hBA.drew | exact (hBA.alloc hBA.size _) | exact (hBA.alloc hBA.size _).drew); have sb := hBB.size; have sb2 := hbb.size; (try simp at sb2); have ogt := own_later (by first | exact ogs | exact World.ownsRow.drew ogs | exact own_alloc ogs _ | exact World.ownsRow.drew (own_alloc ogs _)) hbb (Nat.le_refl _); (first | (have bxc : wb.cell? ⟨w3.heap.size, 0, none⟩ = some (.slice none 0 0) := (hbb.cell (p := ⟨w3.heap.size, 0, none⟩) (by first | omega | (simp; done) | (simp; omega))).trans bxc; have bxf : wb.frozen? ⟨w3.heap.size, 0, none⟩ = false := (hbb.frozen (p := ⟨w3.heap.size, 0, none⟩) (by first | omega | (simp; done) | (simp; omega))).trans bxf) | (refine have bxc : wb.cell? ⟨wa.heap.size, 0, none⟩ = some (.slice none 0 0) := ?bxp; ?_; (case bxp => (refine (hbb.cell (p := ⟨wa.heap.size, 0, none⟩) ?_).trans ?_ <;> (simp [go_sem]; done))); (refine have bxf : wb.frozen? ⟨wa.heap.size, 0, none⟩ = false := ?bxp; ?_); (case bxp => (refine (hbb.frozen (p := ⟨wa.heap.size, 0, none⟩) ?_).trans ?_ <;> (simp [go_sem]; done)))) | skip); have db_0 : wb.cell? ⟨w.heap.size, 0, none⟩ = some (.slice A_aP n_aP c_aP) := (hBB.cell (p := ⟨w.heap.size, 0, none⟩) (by first | omega | (simp; omega))).trans (by first | assumption | (go_split_ands; assumption)); have db_1 : wb.cell? ⟨w.heap.size + 1, 0, none⟩ = some (.int .i64 x_aC) := (hBB.cell (p := ⟨w.heap.size + 1, 0, none⟩) (by first | omega | (simp; omega))).trans (by first | assumption | (go_split_ands; assumption)); have db_2 : wb.cell? ⟨w.heap.size + 1, 1, none⟩ = some (.int .i64 y_aC) := (hBB.cell (p := ⟨w.heap.size + 1, 1, none⟩) (by first | omega | (simp; omega))).trans (by first | assumption | (go_split_ands; assumption)); have db_3 : wb.cell? ⟨w.heap.size + 1, 2, none⟩ = some (.int .i64 z_aC) := (hBB.cell (p := ⟨w.heap.size + 1, 2, none⟩) (by first | omega | (simp; omega))).trans (by first | assumption | (go_split_ands; assumption))
        refine hK.out _ _ ?_ (fun hHeld => ?_)
        · ((try dsimp only); (repeat' apply And.intro); all_goals ((repeat (first | (with_reducible refine cell_drew ?_) | (with_reducible refine cell_drewN _ ?_) | ((with_reducible refine cell_alloc ?_ ?_); · first | omega | (simp; done) | (simp; omega) | assumption) | ((with_reducible refine cell_set ?_ ?_); · first | (intro e; injection e; omega) | (intro e; simp at e; done) | (intro e; simp at e; omega)))); first | assumption | (simp; done)))
        clear hK K
        (try simp only [Act.put, List.setIfInBounds_toArray, List.set_cons_zero, List.set_cons_succ])
        refine wpAnyH_ready (rs := [4, 8]) (by kernel_rfl) (by simp) ?_
        refine AllReadyH.cons rfl (fun K hK => ?_) (AllReadyH.cons rfl (fun K hK => ?_) (AllReadyH.nil))
        ·
          go_simp
          go_at_call 51; refine (sAddClue_any _ _ _ l_aP _ _ _ _ (Rd.of_own (by first | exact ogt | exact World.ownsRow.drew ogt | exact own_alloc ogt _ | exact World.ownsRow.drew (own_alloc ogt _))) ⟨_, _, rfl⟩ (by omega) (by omega) (by omega)).mono ?_; rintro e wf ⟨Af, nf, cf, rfl, hof, hbf⟩; have hBF := bcall2 hbf (a := w3) (by first | exact hBB | exact hBB.drew | exact (hBB.alloc hBB.size _) | exact (hBB.alloc hBB.size _).drew); have sf := hBF.size; have sf2 := hbf.size; (try simp at sf2); (first | (have bxc : wf.cell? ⟨w3.heap.size, 0, none⟩ = some (.slice none 0 0) := (hbf.cell (p := ⟨w3.heap.size, 0, none⟩) (by first | omega | (simp; done) | (simp; omega))).trans bxc; have bxf : wf.frozen? ⟨w3.heap.size, 0, none⟩ = false := (hbf.frozen (p := ⟨w3.heap.size, 0, none⟩) (by first | omega | (simp; done) | (simp; omega))).trans bxf) | (have bxc : wf.cell? ⟨wa.heap.size, 0, none⟩ = some (.slice none 0 0) := (hbf.cell (p := ⟨wa.heap.size, 0, none⟩) (by first | omega | (simp; done) | (simp; omega))).trans bxc; have bxf : wf.frozen? ⟨wa.heap.size, 0, none⟩ = false := (hbf.frozen (p := ⟨wa.heap.size, 0, none⟩) (by first | omega | (simp; done) | (simp; omega))).trans bxf) | (refine have bxc : wf.cell? ⟨wb.heap.size, 0, none⟩ = some (.slice none 0 0) := ?bxp; ?_; (case bxp => (refine (hbf.cell (p := ⟨wb.heap.size, 0, none⟩) ?_).trans ?_ <;> (simp [go_sem]; done))); (refine have bxf : wf.frozen? ⟨wb.heap.size, 0, none⟩ = false := ?bxp; ?_); (case bxp => (refine (hbf.frozen (p := ⟨wb.heap.size, 0, none⟩) ?_).trans ?_ <;> (simp [go_sem]; done)))) | skip); have df_0 : wf.cell? ⟨w.heap.size, 0, none⟩ = some (.slice A_aP n_aP c_aP) := (hBF.cell (p := ⟨w.heap.size, 0, none⟩) (by first | omega | (simp; omega))).trans (by first | assumption | (go_split_ands; assumption)); have df_1 : wf.cell? ⟨w.heap.size + 1, 0, none⟩ = some (.int .i64 x_aC) := (hBF.cell (p := ⟨w.heap.size + 1, 0, none⟩) (by first | omega | (simp; omega))).trans (by first | assumption | (go_split_ands; assumption)); have df_2 : wf.cell? ⟨w.heap.size + 1, 1, none⟩ = some (.int .i64 y_aC) := (hBF.cell (p := ⟨w.heap.size + 1, 1, none⟩) (by first | omega | (simp; omega))).trans (by first | assumption | (go_split_ands; assumption)); have df_3 : wf.cell? ⟨w.heap.size + 1, 2, none⟩ = some (.int .i64 z_aC) := (hBF.cell (p := ⟨w.heap.size + 1, 2, none⟩) (by first | omega | (simp; omega))).trans (by first | assumption | (go_split_ands; assumption))
          refine hK.out _ _ ?_ (fun hHeld => ?_)
          · ((try dsimp only); (repeat' apply And.intro); all_goals ((repeat (first | (with_reducible refine cell_drew ?_) | (with_reducible refine cell_drewN _ ?_) | ((with_reducible refine cell_alloc ?_ ?_); · first | omega | (simp; done) | (simp; omega) | assumption) | ((with_reducible refine cell_set ?_ ?_); · first | (intro e; injection e; omega) | (intro e; simp at e; done) | (intro e; simp at e; omega)))); first | assumption | (simp; done)))
          clear hK K
          (try simp only [Act.put, List.setIfInBounds_toArray, List.set_cons_zero, List.set_cons_succ])
          refine reg_on (i := 5) (d := 21) (v := ?rv3) rfl rfl (by kernel_rfl) (by kernel_rfl) (by kernel_rfl) (fun _ _ _ h => h) (by rfl) ?ry3 (by assumption) ?rr3
          case ry3 => (intro wz hSw; (try dsimp only at hSw); go_simp; try with_reducible rfl)
          (try simp only [Act.put, List.setIfInBounds_toArray, List.set_cons_zero, List.set_cons_succ])
          refine reg_on (i := 6) (d := 27) (v := ?rv4) rfl rfl (by kernel_rfl) (by kernel_rfl) (by kernel_rfl) (fun _ _ _ h => h) (by rfl) ?ry4 (by assumption) ?rr4
          case ry4 => (intro wz hSw; (try dsimp only at hSw); go_simp; try with_reducible rfl)
          (try simp only [Act.put, List.setIfInBounds_toArray, List.set_cons_zero, List.set_cons_succ])
          refine reg_on (i := 7) (d := 28) (v := ?rv5) rfl rfl (by kernel_rfl) (by kernel_rfl) (by kernel_rfl) (fun _ _ _ h => h) (by rfl) ?ry5 (by assumption) ?rr5
          case ry5 => (intro wz hSw; (try dsimp only at hSw); go_simp; try with_reducible rfl)
          (try simp only [Act.put, List.setIfInBounds_toArray, List.set_cons_zero, List.set_cons_succ])
          refine wpAnyH_ready (rs := [8]) (by kernel_rfl) (by simp) ?_
          refine AllReadyH.cons rfl (fun K hK => ?_) (AllReadyH.nil)
          go_simp
          refine hK.out _ _ ?_ (fun hHeld => ?_)
          · ((try dsimp only); (repeat' apply And.intro); all_goals ((repeat (first | (with_reducible refine cell_drew ?_) | (with_reducible refine cell_drewN _ ?_) | ((with_reducible refine cell_alloc ?_ ?_); · first | omega | (simp; done) | (simp; omega) | assumption) | ((with_reducible refine cell_set ?_ ?_); · first | (intro e; injection e; omega) | (intro e; simp at e; done) | (intro e; simp at e; omega)))); first | assumption | (simp; done)))
          clear hK K
          (try simp only [Act.put, List.setIfInBounds_toArray, List.set_cons_zero, List.set_cons_succ])
          refine wpAnyH_ready (rs := [9]) (by kernel_rfl) (by simp) ?_
          refine AllReadyH.cons rfl (fun K hK => ?_) AllReadyH.nil
          go_simp
          refine hK.out _ _ ?_ (fun hHeld => ?_)
          · ((try dsimp only); (repeat' apply And.intro); all_goals ((repeat (first | (with_reducible refine cell_drew ?_) | (with_reducible refine cell_drewN _ ?_) | ((with_reducible refine cell_alloc ?_ ?_); · first | omega | (simp; done) | (simp; omega) | assumption) | ((with_reducible refine cell_set ?_ ?_); · first | (intro e; injection e; omega) | (intro e; simp at e; done) | (intro e; simp at e; omega)))); first | assumption | (simp; done)))
          clear hK K
          (try simp only [Act.put, List.setIfInBounds_toArray, List.set_cons_zero, List.set_cons_succ])
          refine reg_on (i := 10) (d := 7) (v := ?rv7) rfl rfl (by kernel_rfl) (by kernel_rfl) (by kernel_rfl) (fun _ _ _ h => h) (by rfl) ?ry7 (by assumption) ?rr7
          case ry7 => (intro wz hSw; (try dsimp only at hSw); go_simp; try with_reducible rfl)
          (try simp only [Act.put, List.setIfInBounds_toArray, List.set_cons_zero, List.set_cons_succ])
          refine wpAnyH_done (by kernel_rfl) ?_ _
          first | exact TAIL (w3, gs, Af, nf, cf) _ (regR_set hBF (by first | omega | (simp; done) | (simp; omega)) (by first | omega | (simp; done) | (simp; omega)) (by first | omega | (simp; done) | (simp; omega)) bxc hof) | exact TAIL (wa, gs, Af, nf, cf) _ (regR_set hBF (by first | omega | (simp; done) | (simp; omega)) (by first | omega | (simp; done) | (simp; omega)) (by first | omega | (simp; done) | (simp; omega)) bxc hof) | exact TAIL (wb, gs, Af, nf, cf) _ (regR_set hBF (by first | omega | (simp; done) | (simp; omega)) (by first | omega | (simp; done) | (simp; omega)) (by first | omega | (simp; done) | (simp; omega)) bxc hof) | exact TAIL (wf, gs, Af, nf, cf) _ (regR_new hBF (by first | omega | (simp; done) | (simp; omega)) hof) | exact TAIL (wf, gs, Af, nf, cf) _ (regR_newS hBF (by first | omega | (simp; done) | (simp; omega)) hof rfl)
        ·
          go_simp
          refine hK.out _ _ ?_ (fun hHeld => ?_)
          · ((try dsimp only); (repeat' apply And.intro); all_goals ((repeat (first | (with_reducible refine cell_drew ?_) | (with_reducible refine cell_drewN _ ?_) | ((with_reducible refine cell_alloc ?_ ?_); · first | omega | (simp; done) | (simp; omega) | assumption) | ((with_reducible refine cell_set ?_ ?_); · first | (intro e; injection e; omega) | (intro e; simp at e; done) | (intro e; simp at e; omega)))); first | assumption | (simp; done)))
          clear hK K
          (try simp only [Act.put, List.setIfInBounds_toArray, List.set_cons_zero, List.set_cons_succ])
          refine wpAnyH_ready (rs := [4]) (by kernel_rfl) (by simp) ?_
          refine AllReadyH.cons rfl (fun K hK => ?_) (AllReadyH.nil)
          go_simp
          go_at_call 51; refine (sAddClue_any _ _ _ l_aP _ _ _ _ (Rd.of_own (by first | exact ogt | exact World.ownsRow.drew ogt | exact own_alloc ogt _ | exact World.ownsRow.drew (own_alloc ogt _))) ⟨_, _, rfl⟩ (by omega) (by omega) (by omega)).mono ?_; rintro e wf ⟨Af, nf, cf, rfl, hof, hbf⟩; have hBF := bcall2 hbf (a := w3) (by first | exact hBB | exact hBB.drew | exact (hBB.alloc hBB.size _) | exact (hBB.alloc hBB.size _).drew); have sf := hBF.size; have sf2 := hbf.size; (try simp at sf2); (first | (have bxc : wf.cell? ⟨w3.heap.size, 0, none⟩ = some (.slice none 0 0) := (hbf.cell (p := ⟨w3.heap.size, 0, none⟩) (by first | omega | (simp; done) | (simp; omega))).trans bxc; have bxf : wf.frozen? ⟨w3.heap.size, 0, none⟩ = false := (hbf.frozen (p := ⟨w3.heap.size, 0, none⟩) (by first | omega | (simp; done) | (simp; omega))).trans bxf) | (have bxc : wf.cell? ⟨wa.heap.size, 0, none⟩ = some (.slice none 0 0) := (hbf.cell (p := ⟨wa.heap.size, 0, none⟩) (by first | omega | (simp; done) | (simp; omega))).trans bxc; have bxf : wf.frozen? ⟨wa.heap.size, 0, none⟩ = false := (hbf.frozen (p := ⟨wa.heap.size, 0, none⟩) (by first | omega | (simp; done) | (simp; omega))).trans bxf) | (refine have bxc : wf.cell? ⟨wb.heap.size, 0, none⟩ = some (.slice none 0 0) := ?bxp; ?_; (case bxp => (refine (hbf.cell (p := ⟨wb.heap.size, 0, none⟩) ?_).trans ?_ <;> (simp [go_sem]; done))); (refine have bxf : wf.frozen? ⟨wb.heap.size, 0, none⟩ = false := ?bxp; ?_); (case bxp => (refine (hbf.frozen (p := ⟨wb.heap.size, 0, none⟩) ?_).trans ?_ <;> (simp [go_sem]; done)))) | skip); have df_0 : wf.cell? ⟨w.heap.size, 0, none⟩ = some (.slice A_aP n_aP c_aP) := (hBF.cell (p := ⟨w.heap.size, 0, none⟩) (by first | omega | (simp; omega))).trans (by first | assumption | (go_split_ands; assumption)); have df_1 : wf.cell? ⟨w.heap.size + 1, 0, none⟩ = some (.int .i64 x_aC) := (hBF.cell (p := ⟨w.heap.size + 1, 0, none⟩) (by first | omega | (simp; omega))).trans (by first | assumption | (go_split_ands; assumption)); have df_2 : wf.cell? ⟨w.heap.size + 1, 1, none⟩ = some (.int .i64 y_aC) := (hBF.cell (p := ⟨w.heap.size + 1, 1, none⟩) (by first | omega | (simp; omega))).trans (by first | assumption | (go_split_ands; assumption)); have df_3 : wf.cell? ⟨w.heap.size + 1, 2, none⟩ = some (.int .i64 z_aC) := (hBF.cell (p := ⟨w.heap.size + 1, 2, none⟩) (by first | omega | (simp; omega))).trans (by first | assumption | (go_split_ands; assumption))
          refine hK.out _ _ ?_ (fun hHeld => ?_)
          · ((try dsimp only); (repeat' apply And.intro); all_goals ((repeat (first | (with_reducible refine cell_drew ?_) | (with_reducible refine cell_drewN _ ?_) | ((with_reducible refine cell_alloc ?_ ?_); · first | omega | (simp; done) | (simp; omega) | assumption) | ((with_reducible refine cell_set ?_ ?_); · first | (intro e; injection e; omega) | (intro e; simp at e; done) | (intro e; simp at e; omega)))); first | assumption | (simp; done)))
          clear hK K
          (try simp only [Act.put, List.setIfInBounds_toArray, List.set_cons_zero, List.set_cons_succ])
          refine reg_on (i := 5) (d := 21) (v := ?rv8) rfl rfl (by kernel_rfl) (by kernel_rfl) (by kernel_rfl) (fun _ _ _ h => h) (by rfl) ?ry8 (by assumption) ?rr8
          case ry8 => (intro wz hSw; (try dsimp only at hSw); go_simp; try with_reducible rfl)
          (try simp only [Act.put, List.setIfInBounds_toArray, List.set_cons_zero, List.set_cons_succ])
          refine reg_on (i := 6) (d := 27) (v := ?rv9) rfl rfl (by kernel_rfl) (by kernel_rfl) (by kernel_rfl) (fun _ _ _ h => h) (by rfl) ?ry9 (by assumption) ?rr9
          case ry9 => (intro wz hSw; (try dsimp only at hSw); go_simp; try with_reducible rfl)
          (try simp only [Act.put, List.setIfInBounds_toArray, List.set_cons_zero, List.set_cons_succ])
          refine reg_on (i := 7) (d := 28) (v := ?rv10) rfl rfl (by kernel_rfl) (by kernel_rfl) (by kernel_rfl) (fun _ _ _ h => h) (by rfl) ?ry10 (by assumption) ?rr10
          case ry10 => (intro wz hSw; (try dsimp only at hSw); go_simp; try with_reducible rfl)
          (try simp only [Act.put, List.setIfInBounds_toArray, List.set_cons_zero, List.set_cons_succ])
          refine wpAnyH_ready (rs := [9]) (by kernel_rfl) (by simp) ?_
          refine AllReadyH.cons rfl (fun K hK => ?_) AllReadyH.nil
          go_simp
          refine hK.out _ _ ?_ (fun hHeld => ?_)
          · ((try dsimp only); (repeat' apply And.intro); all_goals ((repeat (first | (with_reducible refine cell_drew ?_) | (with_reducible refine cell_drewN _ ?_) | ((with_reducible refine cell_alloc ?_ ?_); · first | omega | (simp; done) | (simp; omega) | assumption) | ((with_reducible refine cell_set ?_ ?_); · first | (intro e; injection e; omega) | (intro e; simp at e; done) | (intro e; simp at e; omega)))); first | assumption | (simp; done)))
          clear hK K
          (try simp only [Act.put, List.setIfInBounds_toArray, List.set_cons_zero, List.set_cons_succ])
          refine reg_on (i := 10) (d := 7) (v := ?rv12) rfl rfl (by kernel_rfl) (by kernel_rfl) (by kernel_rfl) (fun _ _ _ h => h) (by rfl) ?ry12 (by assumption) ?rr12
          case ry12 => (intro wz hSw; (try dsimp only at hSw); go_simp; try with_reducible rfl)
          (try simp only [Act.put, List.setIfInBounds_toArray, List.set_cons_zero, List.set_cons_succ])
          refine wpAnyH_done (by kernel_rfl) ?_ _
          first | exact TAIL (w3, gs, Af, nf, cf) _ (regR_set hBF (by first | omega | (simp; done) | (simp; omega)) (by first | omega | (simp; done) | (simp; omega)) (by first | omega | (simp; done) | (simp; omega)) bxc hof) | exact TAIL (wa, gs, Af, nf, cf) _ (regR_set hBF (by first | omega | (simp; done) | (simp; omega)) (by first | omega | (simp; done) | (simp; omega)) (by first | omega | (simp; done) | (simp; omega)) bxc hof) | exact TAIL (wb, gs, Af, nf, cf) _ (regR_set hBF (by first | omega | (simp; done) | (simp; omega)) (by first | omega | (simp; done) | (simp; omega)) (by first | omega | (simp; done) | (simp; omega)) bxc hof) | exact TAIL (wf, gs, Af, nf, cf) _ (regR_new hBF (by first | omega | (simp; done) | (simp; omega)) hof) | exact TAIL (wf, gs, Af, nf, cf) _ (regR_newS hBF (by first | omega | (simp; done) | (simp; omega)) hof rfl)
      ·
        go_simp
        refine hK.out _ _ ?_ (fun hHeld => ?_)
        · ((try dsimp only); (repeat' apply And.intro); all_goals ((repeat (first | (with_reducible refine cell_drew ?_) | (with_reducible refine cell_drewN _ ?_) | ((with_reducible refine cell_alloc ?_ ?_); · first | omega | (simp; done) | (simp; omega) | assumption) | ((with_reducible refine cell_set ?_ ?_); · first | (intro e; injection e; omega) | (intro e; simp at e; done) | (intro e; simp at e; omega)))); first | assumption | (simp; done)))
        clear hK K
        (try simp only [Act.put, List.setIfInBounds_toArray, List.set_cons_zero, List.set_cons_succ])
        refine wpAnyH_ready (rs := [3]) (by kernel_rfl) (by simp) ?_
        refine AllReadyH.cons rfl (fun K hK => ?_) (AllReadyH.nil)
        go_simp
        go_at_call 19; refine (toClue_any _ _ _ _).mono ?_; rintro e wb ⟨rfl, hbb⟩; have hBB := bcall2 hbb (a := w3) (by first | exact hBA | exact hBA.drew | exact (hBA.alloc hBA.size _) | exact (hBA.alloc hBA.size _).drew); have sb := hBB.size; have sb2 := hbb.size; (try simp at sb2); have ogt := own_later (by first | exact ogs | exact World.ownsRow.drew ogs | exact own_alloc ogs _ | exact World.ownsRow.drew (own_alloc ogs _)) hbb (Nat.le_refl _); (first | (have bxc : wb.cell? ⟨w3.heap.size, 0, none⟩ = some (.slice none 0 0) := (hbb.cell (p := ⟨w3.heap.size, 0, none⟩) (by first | omega | (simp; done) | (simp; omega))).trans bxc; have bxf : wb.frozen? ⟨w3.heap.size, 0, none⟩ = false := (hbb.frozen (p := ⟨w3.heap.size, 0, none⟩) (by first | omega | (simp; done) | (simp; omega))).trans bxf) | (refine have bxc : wb.cell? ⟨wa.heap.size, 0, none⟩ = some (.slice none 0 0) := ?bxp; ?_; (case bxp => (refine (hbb.cell (p := ⟨wa.heap.size, 0, none⟩) ?_).trans ?_ <;> (simp [go_sem]; done))); (refine have bxf : wb.frozen? ⟨wa.heap.size, 0, none⟩ = false := ?bxp; ?_); (case bxp => (refine (hbb.frozen (p := ⟨wa.heap.size, 0, none⟩) ?_).trans ?_ <;> (simp [go_sem]; done)))) | skip); have db_0 : wb.cell? ⟨w.heap.size, 0, none⟩ = some (.slice A_aP n_aP c_aP) := (hBB.cell (p := ⟨w.heap.size, 0, none⟩) (by first | omega | (simp; omega))).trans (by first | assumption | (go_split_ands; assumption)); have db_1 : wb.cell? ⟨w.heap.size + 1, 0, none⟩ = some (.int .i64 x_aC) := (hBB.cell (p := ⟨w.heap.size + 1, 0, none⟩) (by first | omega | (simp; omega))).trans (by first | assumption | (go_split_ands; assumption)); have db_2 : wb.cell? ⟨w.heap.size + 1, 1, none⟩ = some (.int .i64 y_aC) := (hBB.cell (p := ⟨w.heap.size + 1, 1, none⟩) (by first | omega | (simp; omega))).trans (by first | assumption | (go_split_ands; assumption)); have db_3 : wb.cell? ⟨w.heap.size + 1, 2, none⟩ = some (.int .i64 z_aC) := (hBB.cell (p := ⟨w.heap.size + 1, 2, none⟩) (by first | omega | (simp; omega))).trans (by first | assumption | (go_split_ands; assumption))
        refine hK.out _ _ ?_ (fun hHeld => ?_)
        · ((try dsimp only); (repeat' apply And.intro); all_goals ((repeat (first | (with_reducible refine cell_drew ?_) | (with_reducible refine cell_drewN _ ?_) | ((with_reducible refine cell_alloc ?_ ?_); · first | omega | (simp; done) | (simp; omega) | assumption) | ((with_reducible refine cell_set ?_ ?_); · first | (intro e; injection e; omega) | (intro e; simp at e; done) | (intro e; simp at e; omega)))); first | assumption | (simp; done)))
        clear hK K
        (try simp only [Act.put, List.setIfInBounds_toArray, List.set_cons_zero, List.set_cons_succ])
        refine wpAnyH_ready (rs := [4]) (by kernel_rfl) (by simp) ?_
        refine AllReadyH.cons rfl (fun K hK => ?_) (AllReadyH.nil)
        go_simp
        go_at_call 51; refine (sAddClue_any _ _ _ l_aP _ _ _ _ (Rd.of_own (by first | exact ogt | exact World.ownsRow.drew ogt | exact own_alloc ogt _ | exact World.ownsRow.drew (own_alloc ogt _))) ⟨_, _, rfl⟩ (by omega) (by omega) (by omega)).mono ?_; rintro e wf ⟨Af, nf, cf, rfl, hof, hbf⟩; have hBF := bcall2 hbf (a := w3) (by first | exact hBB | exact hBB.drew | exact (hBB.alloc hBB.size _) | exact (hBB.alloc hBB.size _).drew); have sf := hBF.size; have sf2 := hbf.size; (try simp at sf2); (first | (have bxc : wf.cell? ⟨w3.heap.size, 0, none⟩ = some (.slice none 0 0) := (hbf.cell (p := ⟨w3.heap.size, 0, none⟩) (by first | omega | (simp; done) | (simp; omega))).trans bxc; have bxf : wf.frozen? ⟨w3.heap.size, 0, none⟩ = false := (hbf.frozen (p := ⟨w3.heap.size, 0, none⟩) (by first | omega | (simp; done) | (simp; omega))).trans bxf) | (have bxc : wf.cell? ⟨wa.heap.size, 0, none⟩ = some (.slice none 0 0) := (hbf.cell (p := ⟨wa.heap.size, 0, none⟩) (by first | omega | (simp; done) | (simp; omega))).trans bxc; have bxf : wf.frozen? ⟨wa.heap.size, 0, none⟩ = false := (hbf.frozen (p := ⟨wa.heap.size, 0, none⟩) (by first | omega | (simp; done) | (simp; omega))).trans bxf) | (refine have bxc : wf.cell? ⟨wb.heap.size, 0, none⟩ = some (.slice none 0 0) := ?bxp; ?_; (case bxp => (refine (hbf.cell (p := ⟨wb.heap.size, 0, none⟩) ?_).trans ?_ <;> (simp [go_sem]; done))); (refine have bxf : wf.frozen? ⟨wb.heap.size, 0, none⟩ = false := ?bxp; ?_); (case bxp => (refine (hbf.frozen (p := ⟨wb.heap.size, 0, none⟩) ?_).trans ?_ <;> (simp [go_sem]; done)))) | skip); have df_0 : wf.cell? ⟨w.heap.size, 0, none⟩ = some (.slice A_aP n_aP c_aP) := (hBF.cell (p := ⟨w.heap.size, 0, none⟩) (by first | omega | (simp; omega))).trans (by first | assumption | (go_split_ands; assumption)); have df_1 : wf.cell? ⟨w.heap.size + 1, 0, none⟩ = some (.int .i64 x_aC) := (hBF.cell (p := ⟨w.heap.size + 1, 0, none⟩) (by first | omega | (simp; omega))).trans (by first | assumption | (go_split_ands; assumption)); have df_2 : wf.cell? ⟨w.heap.size + 1, 1, none⟩ = some (.int .i64 y_aC) := (hBF.cell (p := ⟨w.heap.size + 1, 1, none⟩) (by first | omega | (simp; omega))).trans (by first | assumption | (go_split_ands; assumption)); have df_3 : wf.cell? ⟨w.heap.size + 1, 2, none⟩ = some (.int .i64 z_aC) := (hBF.cell (p := ⟨w.heap.size + 1, 2, none⟩) (by first | omega | (simp; omega))).trans (by first | assumption | (go_split_ands; assumption))
        refine hK.out _ _ ?_ (fun hHeld => ?_)
        · ((try dsimp only); (repeat' apply And.intro); all_goals ((repeat (first | (with_reducible refine cell_drew ?_) | (with_reducible refine cell_drewN _ ?_) | ((with_reducible refine cell_alloc ?_ ?_); · first | omega | (simp; done) | (simp; omega) | assumption) | ((with_reducible refine cell_set ?_ ?_); · first | (intro e; injection e; omega) | (intro e; simp at e; done) | (intro e; simp at e; omega)))); first | assumption | (simp; done)))
        clear hK K
        (try simp only [Act.put, List.setIfInBounds_toArray, List.set_cons_zero, List.set_cons_succ])
        refine reg_on (i := 5) (d := 21) (v := ?rv13) rfl rfl (by kernel_rfl) (by kernel_rfl) (by kernel_rfl) (fun _ _ _ h => h) (by rfl) ?ry13 (by assumption) ?rr13
        case ry13 => (intro wz hSw; (try dsimp only at hSw); go_simp; try with_reducible rfl)
        (try simp only [Act.put, List.setIfInBounds_toArray, List.set_cons_zero, List.set_cons_succ])
        refine reg_on (i := 6) (d := 27) (v := ?rv14) rfl rfl (by kernel_rfl) (by kernel_rfl) (by kernel_rfl) (fun _ _ _ h => h) (by rfl) ?ry14 (by assumption) ?rr14
        case ry14 => (intro wz hSw; (try dsimp only at hSw); go_simp; try with_reducible rfl)
        (try simp only [Act.put, List.setIfInBounds_toArray, List.set_cons_zero, List.set_cons_succ])
        refine reg_on (i := 7) (d := 28) (v := ?rv15) rfl rfl (by kernel_rfl) (by kernel_rfl) (by kernel_rfl) (fun _ _ _ h => h) (by rfl) ?ry15 (by assumption) ?rr15
        case ry15 => (intro wz hSw; (try dsimp only at hSw); go_simp; try with_reducible rfl)
        (try simp only [Act.put, List.setIfInBounds_toArray, List.set_cons_zero, List.set_cons_succ])
        refine wpAnyH_ready (rs := [9]) (by kernel_rfl) (by simp) ?_
        refine AllReadyH.cons rfl (fun K hK => ?_) AllReadyH.nil
        go_simp
        refine hK.out _ _ ?_ (fun hHeld => ?_)
        · ((try dsimp only); (repeat' apply And.intro); all_goals ((repeat (first | (with_reducible refine cell_drew ?_) | (with_reducible refine cell_drewN _ ?_) | ((with_reducible refine cell_alloc ?_ ?_); · first | omega | (simp; done) | (simp; omega) | assumption) | ((with_reducible refine cell_set ?_ ?_); · first | (intro e; injection e; omega) | (intro e; simp at e; done) | (intro e; simp at e; omega)))); first | assumption | (simp; done)))
        clear hK K
        (try simp only [Act.put, List.setIfInBounds_toArray, List.set_cons_zero, List.set_cons_succ])
        refine reg_on (i := 10) (d := 7) (v := ?rv17) rfl rfl (by kernel_rfl) (by kernel_rfl) (by kernel_rfl) (fun _ _ _ h => h) (by rfl) ?ry17 (by assumption) ?rr17
        case ry17 => (intro wz hSw; (try dsimp only at hSw); go_simp; try with_reducible rfl)
        (try simp only [Act.put, List.setIfInBounds_toArray, List.set_cons_zero, List.set_cons_succ])
        refine wpAnyH_done (by kernel_rfl) ?_ _
        first | exact TAIL (w3, gs, Af, nf, cf) _ (regR_set hBF (by first | omega | (simp; done) | (simp; omega)) (by first | omega | (simp; done) | (simp; omega)) (by first | omega | (simp; done) | (simp; omega)) bxc hof) | exact TAIL (wa, gs, Af, nf, cf) _ (regR_set hBF (by first | omega | (simp; done) | (simp; omega)) (by first | omega | (simp; done) | (simp; omega)) (by first | omega | (simp; done) | (simp; omega)) bxc hof) | exact TAIL (wb, gs, Af, nf, cf) _ (regR_set hBF (by first | omega | (simp; done) | (simp; omega)) (by first | omega | (simp; done) | (simp; omega)) (by first | omega | (simp; done) | (simp; omega)) bxc hof) | exact TAIL (wf, gs, Af, nf, cf) _ (regR_new hBF (by first | omega | (simp; done) | (simp; omega)) hof) | exact TAIL (wf, gs, Af, nf, cf) _ (regR_newS hBF (by first | omega | (simp; done) | (simp; omega)) hof rfl)
    ·
      go_simp
      refine hK.out _ _ ?_ (fun hHeld => ?_)
      · ((try dsimp only); (repeat' apply And.intro); all_goals ((repeat (first | (with_reducible refine cell_drew ?_) | (with_reducible refine cell_drewN _ ?_) | ((with_reducible refine cell_alloc ?_ ?_); · first | omega | (simp; done) | (simp; omega) | assumption) | ((with_reducible refine cell_set ?_ ?_); · first | (intro e; injection e; omega) | (intro e; simp at e; done) | (intro e; simp at e; omega)))); first | assumption | (simp; done)))
      clear hK K
      (try simp only [Act.put, List.setIfInBounds_toArray, List.set_cons_zero, List.set_cons_succ])
      refine wpAnyH_ready (rs := [1]) (by kernel_rfl) (by simp) ?_
      refine AllReadyH.cons rfl (fun K hK => ?_) (AllReadyH.nil)
      go_simp
      go_at_call 23; refine (toPuzzle_any _ _ _ l_aP _ (Rd.later (rd_aP.later bw3 (Nat.le_refl _)) (by first | exact (Below.refl w3.heap.size w3) | exact (Below.refl w3.heap.size w3).drew | exact ((Below.refl w3.heap.size w3).alloc (Below.refl w3.heap.size w3).size _) | exact ((Below.refl w3.heap.size w3).alloc (Below.refl w3.heap.size w3).size _).drew) (Nat.le_refl _)) hn2_aP).mono ?_; rintro e wa ⟨gs, rfl, ogs, hba⟩; have hBA := bcall2 hba (a := w3) (by first | exact (Below.refl w3.heap.size w3) | exact (Below.refl w3.heap.size w3).drew | exact ((Below.refl w3.heap.size w3).alloc (Below.refl w3.heap.size w3).size _) | exact ((Below.refl w3.heap.size w3).alloc (Below.refl w3.heap.size w3).size _).drew); have sa := hBA.size; have sa2 := hba.size; (try simp at sa2); (first | (refine have bxc : wa.cell? ⟨w3.heap.size, 0, none⟩ = some (.slice none 0 0) := ?bxp; ?_; (case bxp => (refine (hba.cell (p := ⟨w3.heap.size, 0, none⟩) ?_).trans ?_ <;> (simp [go_sem]; done))); (refine have bxf : wa.frozen? ⟨w3.heap.size, 0, none⟩ = false := ?bxp; ?_); (case bxp => (refine (hba.frozen (p := ⟨w3.heap.size, 0, none⟩) ?_).trans ?_ <;> (simp [go_sem]; done)))) | skip); have da_0 : wa.cell? ⟨w.heap.size, 0, none⟩ = some (.slice A_aP n_aP c_aP) := (hBA.cell (p := ⟨w.heap.size, 0, none⟩) (by first | omega | (simp; omega))).trans (by first | assumption | (go_split_ands; assumption)); have da_1 : wa.cell? ⟨w.heap.size + 1, 0, none⟩ = some (.int .i64 x_aC) := (hBA.cell (p := ⟨w.heap.size + 1, 0, none⟩) (by first | omega | (simp; omega))).trans (by first | assumption | (go_split_ands; assumption)); have da_2 : wa.cell? ⟨w.heap.size + 1, 1, none⟩ = some (.int .i64 y_aC) := (hBA.cell (p := ⟨w.heap.size + 1, 1, none⟩) (by first | omega | (simp; omega))).trans (by first | assumption | (go_split_ands; assumption)); have da_3 : wa.cell? ⟨w.heap.size + 1, 2, none⟩ = some (.int .i64 z_aC) := (hBA.cell (p := ⟨w.heap.size + 1, 2, none⟩) (by first | omega | (simp; omega))).trans (by first | assumption | (go_split_ands; assumption))
      refine hK.out _ _ ?_ (fun hHeld => ?_)
      · ((try dsimp only); (repeat' apply And.intro); all_goals ((repeat (first | (with_reducible refine cell_drew ?_) | (with_reducible refine cell_drewN _ ?_) | ((with_reducible refine cell_alloc ?_ ?_); · first | omega | (simp; done) | (simp; omega) | assumption) | ((with_reducible refine cell_set ?_ ?_); · first | (intro e; injection e; omega) | (intro e; simp at e; done) | (intro e; simp at e; omega)))); first | assumption | (simp; done)))
      clear hK K
      (try simp only [Act.put, List.setIfInBounds_toArray, List.set_cons_zero, List.set_cons_succ])
      refine wpAnyH_ready (rs := [3]) (by kernel_rfl) (by simp) ?_
      refine AllReadyH.cons rfl (fun K hK => ?_) (AllReadyH.nil)
      go_simp
      go_at_call 19; refine (toClue_any _ _ _ _).mono ?_; rintro e wb ⟨rfl, hbb⟩; have hBB := bcall2 hbb (a := w3) (by first | exact hBA | exact hBA.drew | exact (hBA.alloc hBA.size _) | exact (hBA.alloc hBA.size _).drew); have sb := hBB.size; have sb2 := hbb.size; (try simp at sb2); have ogt := own_later (by first | exact ogs | exact World.ownsRow.drew ogs | exact own_alloc ogs _ | exact World.ownsRow.drew (own_alloc ogs _)) hbb (Nat.le_refl _); (first | (have bxc : wb.cell? ⟨w3.heap.size, 0, none⟩ = some (.slice none 0 0) := (hbb.cell (p := ⟨w3.heap.size, 0, none⟩) (by first | omega | (simp; done) | (simp; omega))).trans bxc; have bxf : wb.frozen? ⟨w3.heap.size, 0, none⟩ = false := (hbb.frozen (p := ⟨w3.heap.size, 0, none⟩) (by first | omega | (simp; done) | (simp; omega))).trans bxf) | (refine have bxc : wb.cell? ⟨wa.heap.size, 0, none⟩ = some (.slice none 0 0) := ?bxp; ?_; (case bxp => (refine (hbb.cell (p := ⟨wa.heap.size, 0, none⟩) ?_).trans ?_ <;> (simp [go_sem]; done))); (refine have bxf : wb.frozen? ⟨wa.heap.size, 0, none⟩ = false := ?bxp; ?_); (case bxp => (refine (hbb.frozen (p := ⟨wa.heap.size, 0, none⟩) ?_).trans ?_ <;> (simp [go_sem]; done)))) | skip); have db_0 : wb.cell? ⟨w.heap.size, 0, none⟩ = some (.slice A_aP n_aP c_aP) := (hBB.cell (p := ⟨w.heap.size, 0, none⟩) (by first | omega | (simp; omega))).trans (by first | assumption | (go_split_ands; assumption)); have db_1 : wb.cell? ⟨w.heap.size + 1, 0, none⟩ = some (.int .i64 x_aC) := (hBB.cell (p := ⟨w.heap.size + 1, 0, none⟩) (by first | omega | (simp; omega))).trans (by first | assumption | (go_split_ands; assumption)); have db_2 : wb.cell? ⟨w.heap.size + 1, 1, none⟩ = some (.int .i64 y_aC) := (hBB.cell (p := ⟨w.heap.size + 1, 1, none⟩) (by first | omega | (simp; omega))).trans (by first | assumption | (go_split_ands; assumption)); have db_3 : wb.cell? ⟨w.heap.size + 1, 2, none⟩ = some (.int .i64 z_aC) := (hBB.cell (p := ⟨w.heap.size + 1, 2, none⟩) (by first | omega | (simp; omega))).trans (by first | assumption | (go_split_ands; assumption))
      refine hK.out _ _ ?_ (fun hHeld => ?_)
      · ((try dsimp only); (repeat' apply And.intro); all_goals ((repeat (first | (with_reducible refine cell_drew ?_) | (with_reducible refine cell_drewN _ ?_) | ((with_reducible refine cell_alloc ?_ ?_); · first | omega | (simp; done) | (simp; omega) | assumption) | ((with_reducible refine cell_set ?_ ?_); · first | (intro e; injection e; omega) | (intro e; simp at e; done) | (intro e; simp at e; omega)))); first | assumption | (simp; done)))
      clear hK K
      (try simp only [Act.put, List.setIfInBounds_toArray, List.set_cons_zero, List.set_cons_succ])
      refine wpAnyH_ready (rs := [4]) (by kernel_rfl) (by simp) ?_
      refine AllReadyH.cons rfl (fun K hK => ?_) (AllReadyH.nil)
      go_simp
      go_at_call 51; refine (sAddClue_any _ _ _ l_aP _ _ _ _ (Rd.of_own (by first | exact ogt | exact World.ownsRow.drew ogt | exact own_alloc ogt _ | exact World.ownsRow.drew (own_alloc ogt _))) ⟨_, _, rfl⟩ (by omega) (by omega) (by omega)).mono ?_; rintro e wf ⟨Af, nf, cf, rfl, hof, hbf⟩; have hBF := bcall2 hbf (a := w3) (by first | exact hBB | exact hBB.drew | exact (hBB.alloc hBB.size _) | exact (hBB.alloc hBB.size _).drew); have sf := hBF.size; have sf2 := hbf.size; (try simp at sf2); (first | (have bxc : wf.cell? ⟨w3.heap.size, 0, none⟩ = some (.slice none 0 0) := (hbf.cell (p := ⟨w3.heap.size, 0, none⟩) (by first | omega | (simp; done) | (simp; omega))).trans bxc; have bxf : wf.frozen? ⟨w3.heap.size, 0, none⟩ = false := (hbf.frozen (p := ⟨w3.heap.size, 0, none⟩) (by first | omega | (simp; done) | (simp; omega))).trans bxf) | (have bxc : wf.cell? ⟨wa.heap.size, 0, none⟩ = some (.slice none 0 0) := (hbf.cell (p := ⟨wa.heap.size, 0, none⟩) (by first | omega | (simp; done) | (simp; omega))).trans bxc; have bxf : wf.frozen? ⟨wa.heap.size, 0, none⟩ = false := (hbf.frozen (p := ⟨wa.heap.size, 0, none⟩) (by first | omega | (simp; done) | (simp; omega))).trans bxf) | (refine have bxc : wf.cell? ⟨wb.heap.size, 0, none⟩ = some (.slice none 0 0) := ?bxp; ?_; (case bxp => (refine (hbf.cell (p := ⟨wb.heap.size, 0, none⟩) ?_).trans ?_ <;> (simp [go_sem]; done))); (refine have bxf : wf.frozen? ⟨wb.heap.size, 0, none⟩ = false := ?bxp; ?_); (case bxp => (refine (hbf.frozen (p := ⟨wb.heap.size, 0, none⟩) ?_).trans ?_ <;> (simp [go_sem]; done)))) | skip); have df_0 : wf.cell? ⟨w.heap.size, 0, none⟩ = some (.slice A_aP n_aP c_aP) := (hBF.cell (p := ⟨w.heap.size, 0, none⟩) (by first | omega | (simp; omega))).trans (by first | assumption | (go_split_ands; assumption)); have df_1 : wf.cell? ⟨w.heap.size + 1, 0, none⟩ = some (.int .i64 x_aC) := (hBF.cell (p := ⟨w.heap.size + 1, 0, none⟩) (by first | omega | (simp; omega))).trans (by first | assumption | (go_split_ands; assumption)); have df_2 : wf.cell? ⟨w.heap.size + 1, 1, none⟩ = some (.int .i64 y_aC) := (hBF.cell (p := ⟨w.heap.size + 1, 1, none⟩) (by first | omega | (simp; omega))).trans (by first | assumption | (go_split_ands; assumption)); have df_3 : wf.cell? ⟨w.heap.size + 1, 2, none⟩ = some (.int .i64 z_aC) := (hBF.cell (p := ⟨w.heap.size + 1, 2, none⟩) (by first | omega | (simp; omega))).trans (by first | assumption | (go_split_ands; assumption))
      refine hK.out _ _ ?_ (fun hHeld => ?_)
      · ((try dsimp only); (repeat' apply And.intro); all_goals ((repeat (first | (with_reducible refine cell_drew ?_) | (with_reducible refine cell_drewN _ ?_) | ((with_reducible refine cell_alloc ?_ ?_); · first | omega | (simp; done) | (simp; omega) | assumption) | ((with_reducible refine cell_set ?_ ?_); · first | (intro e; injection e; omega) | (intro e; simp at e; done) | (intro e; simp at e; omega)))); first | assumption | (simp; done)))
      clear hK K
      (try simp only [Act.put, List.setIfInBounds_toArray, List.set_cons_zero, List.set_cons_succ])
      refine reg_on (i := 5) (d := 21) (v := ?rv18) rfl rfl (by kernel_rfl) (by kernel_rfl) (by kernel_rfl) (fun _ _ _ h => h) (by rfl) ?ry18 (by assumption) ?rr18
      case ry18 => (intro wz hSw; (try dsimp only at hSw); go_simp; try with_reducible rfl)
      (try simp only [Act.put, List.setIfInBounds_toArray, List.set_cons_zero, List.set_cons_succ])
      refine reg_on (i := 6) (d := 27) (v := ?rv19) rfl rfl (by kernel_rfl) (by kernel_rfl) (by kernel_rfl) (fun _ _ _ h => h) (by rfl) ?ry19 (by assumption) ?rr19
      case ry19 => (intro wz hSw; (try dsimp only at hSw); go_simp; try with_reducible rfl)
      (try simp only [Act.put, List.setIfInBounds_toArray, List.set_cons_zero, List.set_cons_succ])
      refine reg_on (i := 7) (d := 28) (v := ?rv20) rfl rfl (by kernel_rfl) (by kernel_rfl) (by kernel_rfl) (fun _ _ _ h => h) (by rfl) ?ry20 (by assumption) ?rr20
      case ry20 => (intro wz hSw; (try dsimp only at hSw); go_simp; try with_reducible rfl)
      (try simp only [Act.put, List.setIfInBounds_toArray, List.set_cons_zero, List.set_cons_succ])
      refine wpAnyH_ready (rs := [9]) (by kernel_rfl) (by simp) ?_
      refine AllReadyH.cons rfl (fun K hK => ?_) AllReadyH.nil
      go_simp
      refine hK.out _ _ ?_ (fun hHeld => ?_)
      · ((try dsimp only); (repeat' apply And.intro); all_goals ((repeat (first | (with_reducible refine cell_drew ?_) | (with_reducible refine cell_drewN _ ?_) | ((with_reducible refine cell_alloc ?_ ?_); · first | omega | (simp; done) | (simp; omega) | assumption) | ((with_reducible refine cell_set ?_ ?_); · first | (intro e; injection e; omega) | (intro e; simp at e; done) | (intro e; simp at e; omega)))); first | assumption | (simp; done)))
      clear hK K
      (try simp only [Act.put, List.setIfInBounds_toArray, List.set_cons_zero, List.set_cons_succ])
      refine reg_on (i := 10) (d := 7) (v := ?rv22) rfl rfl (by kernel_rfl) (by kernel_rfl) (by kernel_rfl) (fun _ _ _ h => h) (by rfl) ?ry22 (by assumption) ?rr22
      case ry22 => (intro wz hSw; (try dsimp only at hSw); go_simp; try with_reducible rfl)
      (try simp only [Act.put, List.setIfInBounds_toArray, List.set_cons_zero, List.set_cons_succ])
      refine wpAnyH_done (by kernel_rfl) ?_ _
      first | exact TAIL (w3, gs, Af, nf, cf) _ (regR_set hBF (by first | omega | (simp; done) | (simp; omega)) (by first | omega | (simp; done) | (simp; omega)) (by first | omega | (simp; done) | (simp; omega)) bxc hof) | exact TAIL (wa, gs, Af, nf, cf) _ (regR_set hBF (by first | omega | (simp; done) | (simp; omega)) (by first | omega | (simp; done) | (simp; omega)) (by first | omega | (simp; done) | (simp; omega)) bxc hof) | exact TAIL (wb, gs, Af, nf, cf) _ (regR_set hBF (by first | omega | (simp; done) | (simp; omega)) (by first | omega | (simp; done) | (simp; omega)) (by first | omega | (simp; done) | (simp; omega)) bxc hof) | exact TAIL (wf, gs, Af, nf, cf) _ (regR_new hBF (by first | omega | (simp; done) | (simp; omega)) hof) | exact TAIL (wf, gs, Af, nf, cf) _ (regR_newS hBF (by first | omega | (simp; done) | (simp; omega)) hof rfl)
  rintro ⟨w4, gc_w0, A_w0, n_w0, c_w0⟩ w5 ⟨hb5, cs2_0_5, eb5, ec5, o_w0_5, ne_w0⟩
  dsimp only at hb5 cs2_0_5 eb5 ec5 o_w0_5 ne_w0 ⊢
  (try simp only [List.setIfInBounds_toArray, List.set_cons_zero, List.set_cons_succ])
  have s5 := hb5.size
  replace ne_w0 := Lib.hid ne_w0
  have bw5 : Below w.heap.size w w5 := bcall bw3.size hb5 bw3
  have q5 := bw5.size
  have cs0_0_5 := (hb5.cell (p := ⟨w.heap.size, 0, none⟩) (by show w.heap.size < w3.heap.size; omega)).trans cs0_0_3; clear cs0_0_3
  have zs0_5 : w.heap.size < w5.heap.size := by omega
  have cs1_0_5 := (hb5.cell (p := ⟨w1.heap.size, 0, none⟩) (by show w1.heap.size < w3.heap.size; omega)).trans cs1_0_3; clear cs1_0_3
  have cs1_1_5 := (hb5.cell (p := ⟨w1.heap.size, 1, none⟩) (by show w1.heap.size < w3.heap.size; omega)).trans cs1_1_3; clear cs1_1_3
  have cs1_2_5 := (hb5.cell (p := ⟨w1.heap.size, 2, none⟩) (by show w1.heap.size < w3.heap.size; omega)).trans cs1_2_3; clear cs1_2_3
  have zs1_5 : w1.heap.size < w5.heap.size := by omega
  have zs2_5 : w4.heap.size < w5.heap.size := ec5
  have bc_w0_5 : Below w5.heap.size w5 w5 := Below.refl _ _; have oc_w0 := Lib.hid o_w0_5
  have lt_w0 := Lib.hid (fun g (h : (Value.slice A_w0 n_w0 c_w0).ownBlock = some g) => o_w0_5.lt g h)
  have ln_w0 : n_w0 ≤ 100000000 := by have h := o_w0_5.1; rw [length_boxCells] at h; have := length_addR l_aP (x_aC, y_aC, z_aC); omega
  go_wp2_with fail
  refine (toPuzzle_any _ _ _ l_aP _ (rd_aP.later bw5 (Nat.le_refl _)) hn2_aP).mono ?_; rintro e w6 ⟨g_x0, rfl, o_x0_6, hb6⟩; have s6 := hb6.size
  have bw6 : Below w.heap.size w w6 := bcall bw5.size hb6 bw5
  have q6 := bw6.size
  have o_w0_6 := own_later o_w0_5 hb6 (Nat.le_refl _)
  have bc_w0_6 : Below w5.heap.size w5 w6 := bc_w0_5.trans (hb6.mono (by omega))
  have cs0_0_6 := (hb6.cell (p := ⟨w.heap.size, 0, none⟩) (by show w.heap.size < w5.heap.size; omega)).trans cs0_0_5; clear cs0_0_5
  have zs0_6 : w.heap.size < w6.heap.size := by omega
  have cs1_0_6 := (hb6.cell (p := ⟨w1.heap.size, 0, none⟩) (by show w1.heap.size < w5.heap.size; omega)).trans cs1_0_5; clear cs1_0_5
  have cs1_1_6 := (hb6.cell (p := ⟨w1.heap.size, 1, none⟩) (by show w1.heap.size < w5.heap.size; omega)).trans cs1_1_5; clear cs1_1_5
  have cs1_2_6 := (hb6.cell (p := ⟨w1.heap.size, 2, none⟩) (by show w1.heap.size < w5.heap.size; omega)).trans cs1_2_5; clear cs1_2_5
  have zs1_6 : w1.heap.size < w6.heap.size := by omega
  have cs2_0_6 := (hb6.cell (p := ⟨w4.heap.size, 0, none⟩) (by show w4.heap.size < w5.heap.size; omega)).trans cs2_0_5; clear cs2_0_5
  have zs2_6 : w4.heap.size < w6.heap.size := by omega
  have lt_x0 := Lib.hid (fun g (h : (Value.slice (some ⟨g_x0, 0, none⟩) n_aP n_aP).ownBlock = some g) => o_x0_6.lt g h)
  obtain ⟨w7, hw7⟩ : ∃ wm, wm = w6.alloc (.cells #[.slice (some ⟨g_x0, 0, none⟩) n_aP n_aP] 35) := ⟨_, rfl⟩
  have hb7 : Below w6.heap.size w6 w7 := by rw [hw7]; exact (Below.refl _ _).alloc (Nat.le_refl _) _
  have cs3_0_7 : w7.cell? ⟨w6.heap.size, 0, none⟩ = some (.slice (some ⟨g_x0, 0, none⟩) n_aP n_aP) := by rw [hw7]; simp [go_sem]
  have s7 : w6.heap.size + 1 ≤ w7.heap.size := by rw [hw7]; simp
  have HW7 := Lib.hid hw7; clear hw7
  have bw7 : Below w.heap.size w w7 := bcall bw6.size hb7 bw6
  have q7 := bw7.size
  have o_w0_7 := own_later o_w0_6 hb7 (Nat.le_refl _)
  have o_x0_7 := own_later o_x0_6 hb7 (Nat.le_refl _)
  have bc_w0_7 : Below w5.heap.size w5 w7 := bc_w0_6.trans (hb7.mono (by omega))
  have cs0_0_7 := (hb7.cell (p := ⟨w.heap.size, 0, none⟩) (by show w.heap.size < w6.heap.size; omega)).trans cs0_0_6; clear cs0_0_6
  have zs0_7 : w.heap.size < w7.heap.size := by omega
  have cs1_0_7 := (hb7.cell (p := ⟨w1.heap.size, 0, none⟩) (by show w1.heap.size < w6.heap.size; omega)).trans cs1_0_6; clear cs1_0_6
  have cs1_1_7 := (hb7.cell (p := ⟨w1.heap.size, 1, none⟩) (by show w1.heap.size < w6.heap.size; omega)).trans cs1_1_6; clear cs1_1_6
  have cs1_2_7 := (hb7.cell (p := ⟨w1.heap.size, 2, none⟩) (by show w1.heap.size < w6.heap.size; omega)).trans cs1_2_6; clear cs1_2_6
  have zs1_7 : w1.heap.size < w7.heap.size := by omega
  have cs2_0_7 := (hb7.cell (p := ⟨w4.heap.size, 0, none⟩) (by show w4.heap.size < w6.heap.size; omega)).trans cs2_0_6; clear cs2_0_6
  have zs2_7 : w4.heap.size < w7.heap.size := by omega
  have zs3_7 : w6.heap.size < w7.heap.size := by omega
  have cx7_0_0 : (w6.alloc (.cells #[.slice (some ⟨g_x0, 0, none⟩) n_aP n_aP] 35)).cell? ⟨w.heap.size, 0, none⟩ = some (.slice A_aP n_aP c_aP) := by rw [← HW7.out]; exact cs0_0_7
  have cx7_1_0 : (w6.alloc (.cells #[.slice (some ⟨g_x0, 0, none⟩) n_aP n_aP] 35)).cell? ⟨w1.heap.size, 0, none⟩ = some (.int .i64 x_aC) := by rw [← HW7.out]; exact cs1_0_7
  have cx7_1_1 : (w6.alloc (.cells #[.slice (some ⟨g_x0, 0, none⟩) n_aP n_aP] 35)).cell? ⟨w1.heap.size, 1, none⟩ = some (.int .i64 y_aC) := by rw [← HW7.out]; exact cs1_1_7
  have cx7_1_2 : (w6.alloc (.cells #[.slice (some ⟨g_x0, 0, none⟩) n_aP n_aP] 35)).cell? ⟨w1.heap.size, 2, none⟩ = some (.int .i64 z_aC) := by rw [← HW7.out]; exact cs1_2_7
  have cx7_2_0 : (w6.alloc (.cells #[.slice (some ⟨g_x0, 0, none⟩) n_aP n_aP] 35)).cell? ⟨w4.heap.size, 0, none⟩ = some (.slice A_w0 n_w0 c_w0) := by rw [← HW7.out]; exact cs2_0_7
  have cx7_3_0 : (w6.alloc (.cells #[.slice (some ⟨g_x0, 0, none⟩) n_aP n_aP] 35)).cell? ⟨w6.heap.size, 0, none⟩ = some (.slice (some ⟨g_x0, 0, none⟩) n_aP n_aP) := by rw [← HW7.out]; exact cs3_0_7
  have cv7_0 : w7.cell? ⟨w.heap.size + 1, 0, none⟩ = some (.int .i64 x_aC) := by rw [← ew1]; exact cs1_0_7
  have cv7_1 : w7.cell? ⟨w.heap.size + 1, 1, none⟩ = some (.int .i64 y_aC) := by rw [← ew1]; exact cs1_1_7
  have cv7_2 : w7.cell? ⟨w.heap.size + 1, 2, none⟩ = some (.int .i64 z_aC) := by rw [← ew1]; exact cs1_2_7
  go_wp2
  rw [← HW7.out]
  refine tail_once (α := World × Nat × Option Addr × Nat × Nat) (fun x t => (((((((((t.setIfInBounds 32 (.agg #[.slice (some ⟨g_x0, 0, none⟩) n_aP n_aP])).setIfInBounds 33 (bx3 x_aC y_aC z_aC)).setIfInBounds 34 (bx3 x_aC y_aC z_aC)).setIfInBounds 35 (.tuple #[.agg #[.slice x.2.2.1 x.2.2.2.1 x.2.2.2.2], .bool (addB l_aP (x_aC, y_aC, z_aC))])).setIfInBounds 31 (.tuple #[.agg #[.slice x.2.2.1 x.2.2.2.1 x.2.2.2.2], .bool (addB l_aP (x_aC, y_aC, z_aC))])).setIfInBounds 36 (.agg #[.slice x.2.2.1 x.2.2.2.1 x.2.2.2.2])).setIfInBounds 37 (.bool (addB l_aP (x_aC, y_aC, z_aC)))).setIfInBounds 9 (.pointer (some ⟨x.1.heap.size, 0, none⟩))).setIfInBounds 10 (.bool (addB l_aP (x_aC, y_aC, z_aC))))) (fun x w' => RegR w7 25 (boxCells (addR l_aP (x_aC, y_aC, z_aC))) x.1 x.2.2.1 x.2.2.2.1 x.2.2.2.2 w') ?_ (fun TAIL => ?_)
  rotate_left
  · dsimp only at TAIL
    (try simp only [List.setIfInBounds_toArray, List.set_cons_zero, List.set_cons_succ] at TAIL)
    refine wp_region_held_drew (S := (fun w' => w'.cell? ⟨w6.heap.size, 0, none⟩ = some (.slice (some ⟨g_x0, 0, none⟩) n_aP n_aP) ∧ w'.cell? ⟨w.heap.size + 1, 0, none⟩ = some (.int .i64 x_aC) ∧ w'.cell? ⟨w.heap.size + 1, 1, none⟩ = some (.int .i64 y_aC) ∧ w'.cell? ⟨w.heap.size + 1, 2, none⟩ = some (.int .i64 z_aC))) (by kernel_rfl) ?_ (fun hHeld => ?_)
    · ((try dsimp only); (repeat' apply And.intro); all_goals ((repeat (first | (with_reducible refine cell_drew ?_) | (with_reducible refine cell_drewN _ ?_) | ((with_reducible refine cell_alloc ?_ ?_); · first | omega | (simp; done) | (simp; omega) | assumption) | ((with_reducible refine cell_set ?_ ?_); · first | (intro e; injection e; omega) | (intro e; simp at e; done) | (intro e; simp at e; omega)))); first | assumption | (simp; done)))
    refine reg_on (i := 0) (d := 32) (v := ?rv23) rfl rfl (by kernel_rfl) (by kernel_rfl) (by kernel_rfl) (fun _ _ _ h => h) (by rfl) ?ry23 (by assumption) ?rr23
    case ry23 => (intro wz hSw; (try dsimp only at hSw); go_simp; try with_reducible rfl)
    (try simp only [Act.put, List.setIfInBounds_toArray, List.set_cons_zero, List.set_cons_succ])
    refine reg_on (i := 1) (d := 33) (v := ?rv24) rfl rfl (by kernel_rfl) (by kernel_rfl) (by kernel_rfl) (fun _ _ _ h => h) (by rfl) ?ry24 (by assumption) ?rr24
    case ry24 => (intro wz hSw; (try dsimp only at hSw); go_simp; try with_reducible rfl)
    (try simp only [Act.put, List.setIfInBounds_toArray, List.set_cons_zero, List.set_cons_succ])
    refine wpAnyH_ready (rs := [2, 7]) (by kernel_rfl) (by simp) ?_
    refine AllReadyH.cons rfl (fun K hK => ?_) (AllReadyH.cons rfl (fun K hK => ?_) (AllReadyH.nil))
    ·
      go_simp
      go_at_call 19; refine (toClue_any _ _ _ _).mono ?_; rintro e wb ⟨rfl, hbb⟩; have hBB := bcall2 hbb (a := w7) (by first | exact (Below.refl w7.heap.size w7) | exact (Below.refl w7.heap.size w7).drew | exact ((Below.refl w7.heap.size w7).alloc (Below.refl w7.heap.size w7).size _) | exact ((Below.refl w7.heap.size w7).alloc (Below.refl w7.heap.size w7).size _).drew); have sb := hBB.size; have sb2 := hbb.size; (try simp at sb2); have ogt := own_later (by first | exact o_x0_7 | exact World.ownsRow.drew o_x0_7 | exact own_alloc o_x0_7 _ | exact World.ownsRow.drew (own_alloc o_x0_7 _)) hbb (Nat.le_refl _); (first | (refine have bxc : wb.cell? ⟨w7.heap.size, 0, none⟩ = some (.slice none 0 0) := ?bxp; ?_; (case bxp => (refine (hbb.cell (p := ⟨w7.heap.size, 0, none⟩) ?_).trans ?_ <;> (simp [go_sem]; done))); (refine have bxf : wb.frozen? ⟨w7.heap.size, 0, none⟩ = false := ?bxp; ?_); (case bxp => (refine (hbb.frozen (p := ⟨w7.heap.size, 0, none⟩) ?_).trans ?_ <;> (simp [go_sem]; done)))) | skip); have db_0 : wb.cell? ⟨w6.heap.size, 0, none⟩ = some (.slice (some ⟨g_x0, 0, none⟩) n_aP n_aP) := (hBB.cell (p := ⟨w6.heap.size, 0, none⟩) (by first | omega | (simp; omega))).trans (by first | assumption | (go_split_ands; assumption)); have db_1 : wb.cell? ⟨w.heap.size + 1, 0, none⟩ = some (.int .i64 x_aC) := (hBB.cell (p := ⟨w.heap.size + 1, 0, none⟩) (by first | omega | (simp; omega))).trans (by first | assumption | (go_split_ands; assumption)); have db_2 : wb.cell? ⟨w.heap.size + 1, 1, none⟩ = some (.int .i64 y_aC) := (hBB.cell (p := ⟨w.heap.size + 1, 1, none⟩) (by first | omega | (simp; omega))).trans (by first | assumption | (go_split_ands; assumption)); have db_3 : wb.cell? ⟨w.heap.size + 1, 2, none⟩ = some (.int .i64 z_aC) := (hBB.cell (p := ⟨w.heap.size + 1, 2, none⟩) (by first | omega | (simp; omega))).trans (by first | assumption | (go_split_ands; assumption))
      refine hK.out _ _ ?_ (fun hHeld => ?_)
      · ((try dsimp only); (repeat' apply And.intro); all_goals ((repeat (first | (with_reducible refine cell_drew ?_) | (with_reducible refine cell_drewN _ ?_) | ((with_reducible refine cell_alloc ?_ ?_); · first | omega | (simp; done) | (simp; omega) | assumption) | ((with_reducible refine cell_set ?_ ?_); · first | (intro e; injection e; omega) | (intro e; simp at e; done) | (intro e; simp at e; omega)))); first | assumption | (simp; done)))
      clear hK K
      (try simp only [Act.put, List.setIfInBounds_toArray, List.set_cons_zero, List.set_cons_succ])
      refine wpAnyH_ready (rs := [3, 7]) (by kernel_rfl) (by simp) ?_
      refine AllReadyH.cons rfl (fun K hK => ?_) (AllReadyH.cons rfl (fun K hK => ?_) (AllReadyH.nil))
      ·
        go_simp
        go_at_call 52; refine (addClue_any _ _ _ l_aP _ _ _ _ (Rd.of_own (by first | exact ogt | exact World.ownsRow.drew ogt | exact own_alloc ogt _ | exact World.ownsRow.drew (own_alloc ogt _))) ⟨_, _, rfl⟩ (by omega) (by omega) (by omega)).mono ?_; rintro e wf ⟨Af, nf, cf, rfl, hof, hbf⟩; have hBF := bcall2 hbf (a := w7) (by first | exact hBB | exact hBB.drew | exact (hBB.alloc hBB.size _) | exact (hBB.alloc hBB.size _).drew); have sf := hBF.size; have sf2 := hbf.size; (try simp at sf2); (first | (have bxc : wf.cell? ⟨w7.heap.size, 0, none⟩ = some (.slice none 0 0) := (hbf.cell (p := ⟨w7.heap.size, 0, none⟩) (by first | omega | (simp; done) | (simp; omega))).trans bxc; have bxf : wf.frozen? ⟨w7.heap.size, 0, none⟩ = false := (hbf.frozen (p := ⟨w7.heap.size, 0, none⟩) (by first | omega | (simp; done) | (simp; omega))).trans bxf) | (refine have bxc : wf.cell? ⟨wb.heap.size, 0, none⟩ = some (.slice none 0 0) := ?bxp; ?_; (case bxp => (refine (hbf.cell (p := ⟨wb.heap.size, 0, none⟩) ?_).trans ?_ <;> (simp [go_sem]; done))); (refine have bxf : wf.frozen? ⟨wb.heap.size, 0, none⟩ = false := ?bxp; ?_); (case bxp => (refine (hbf.frozen (p := ⟨wb.heap.size, 0, none⟩) ?_).trans ?_ <;> (simp [go_sem]; done)))) | skip); have df_0 : wf.cell? ⟨w6.heap.size, 0, none⟩ = some (.slice (some ⟨g_x0, 0, none⟩) n_aP n_aP) := (hBF.cell (p := ⟨w6.heap.size, 0, none⟩) (by first | omega | (simp; omega))).trans (by first | assumption | (go_split_ands; assumption)); have df_1 : wf.cell? ⟨w.heap.size + 1, 0, none⟩ = some (.int .i64 x_aC) := (hBF.cell (p := ⟨w.heap.size + 1, 0, none⟩) (by first | omega | (simp; omega))).trans (by first | assumption | (go_split_ands; assumption)); have df_2 : wf.cell? ⟨w.heap.size + 1, 1, none⟩ = some (.int .i64 y_aC) := (hBF.cell (p := ⟨w.heap.size + 1, 1, none⟩) (by first | omega | (simp; omega))).trans (by first | assumption | (go_split_ands; assumption)); have df_3 : wf.cell? ⟨w.heap.size + 1, 2, none⟩ = some (.int .i64 z_aC) := (hBF.cell (p := ⟨w.heap.size + 1, 2, none⟩) (by first | omega | (simp; omega))).trans (by first | assumption | (go_split_ands; assumption))
        refine hK.out _ _ ?_ (fun hHeld => ?_)
        · ((try dsimp only); (repeat' apply And.intro); all_goals ((repeat (first | (with_reducible refine cell_drew ?_) | (with_reducible refine cell_drewN _ ?_) | ((with_reducible refine cell_alloc ?_ ?_); · first | omega | (simp; done) | (simp; omega) | assumption) | ((with_reducible refine cell_set ?_ ?_); · first | (intro e; injection e; omega) | (intro e; simp at e; done) | (intro e; simp at e; omega)))); first | assumption | (simp; done)))
        clear hK K
        (try simp only [Act.put, List.setIfInBounds_toArray, List.set_cons_zero, List.set_cons_succ])
        refine reg_on (i := 4) (d := 31) (v := ?rv25) rfl rfl (by kernel_rfl) (by kernel_rfl) (by kernel_rfl) (fun _ _ _ h => h) (by rfl) ?ry25 (by assumption) ?rr25
        case ry25 => (intro wz hSw; (try dsimp only at hSw); go_simp; try with_reducible rfl)
        (try simp only [Act.put, List.setIfInBounds_toArray, List.set_cons_zero, List.set_cons_succ])
        refine reg_on (i := 5) (d := 36) (v := ?rv26) rfl rfl (by kernel_rfl) (by kernel_rfl) (by kernel_rfl) (fun _ _ _ h => h) (by rfl) ?ry26 (by assumption) ?rr26
        case ry26 => (intro wz hSw; (try dsimp only at hSw); go_simp; try with_reducible rfl)
        (try simp only [Act.put, List.setIfInBounds_toArray, List.set_cons_zero, List.set_cons_succ])
        refine reg_on (i := 6) (d := 37) (v := ?rv27) rfl rfl (by kernel_rfl) (by kernel_rfl) (by kernel_rfl) (fun _ _ _ h => h) (by rfl) ?ry27 (by assumption) ?rr27
        case ry27 => (intro wz hSw; (try dsimp only at hSw); go_simp; try with_reducible rfl)
        (try simp only [Act.put, List.setIfInBounds_toArray, List.set_cons_zero, List.set_cons_succ])
        refine wpAnyH_ready (rs := [7]) (by kernel_rfl) (by simp) ?_
        refine AllReadyH.cons rfl (fun K hK => ?_) (AllReadyH.nil)
        go_simp
        refine hK.out _ _ ?_ (fun hHeld => ?_)
        · ((try dsimp only); (repeat' apply And.intro); all_goals ((repeat (first | (with_reducible refine cell_drew ?_) | (with_reducible refine cell_drewN _ ?_) | ((with_reducible refine cell_alloc ?_ ?_); · first | omega | (simp; done) | (simp; omega) | assumption) | ((with_reducible refine cell_set ?_ ?_); · first | (intro e; injection e; omega) | (intro e; simp at e; done) | (intro e; simp at e; omega)))); first | assumption | (simp; done)))
        clear hK K
        (try simp only [Act.put, List.setIfInBounds_toArray, List.set_cons_zero, List.set_cons_succ])
        refine wpAnyH_ready (rs := [8]) (by kernel_rfl) (by simp) ?_
        refine AllReadyH.cons rfl (fun K hK => ?_) AllReadyH.nil
        go_simp
        refine hK.out _ _ ?_ (fun hHeld => ?_)
        · ((try dsimp only); (repeat' apply And.intro); all_goals ((repeat (first | (with_reducible refine cell_drew ?_) | (with_reducible refine cell_drewN _ ?_) | ((with_reducible refine cell_alloc ?_ ?_); · first | omega | (simp; done) | (simp; omega) | assumption) | ((with_reducible refine cell_set ?_ ?_); · first | (intro e; injection e; omega) | (intro e; simp at e; done) | (intro e; simp at e; omega)))); first | assumption | (simp; done)))
        clear hK K
        (try simp only [Act.put, List.setIfInBounds_toArray, List.set_cons_zero, List.set_cons_succ])
        refine reg_on (i := 9) (d := 10) (v := ?rv29) rfl rfl (by kernel_rfl) (by kernel_rfl) (by kernel_rfl) (fun _ _ _ h => h) (by rfl) ?ry29 (by assumption) ?rr29
        case ry29 => (intro wz hSw; (try dsimp only at hSw); go_simp; try with_reducible rfl)
        (try simp only [Act.put, List.setIfInBounds_toArray, List.set_cons_zero, List.set_cons_succ])
        refine wpAnyH_done (by kernel_rfl) ?_ _
        first | exact TAIL (w7, 0, Af, nf, cf) _ (regR_set hBF (by first | omega | (simp; done) | (simp; omega)) (by first | omega | (simp; done) | (simp; omega)) (by first | omega | (simp; done) | (simp; omega)) bxc hof) | exact TAIL (wb, 0, Af, nf, cf) _ (regR_set hBF (by first | omega | (simp; done) | (simp; omega)) (by first | omega | (simp; done) | (simp; omega)) (by first | omega | (simp; done) | (simp; omega)) bxc hof) | exact TAIL (wf, 0, Af, nf, cf) _ (regR_new hBF (by first | omega | (simp; done) | (simp; omega)) hof) | exact TAIL (wf, 0, Af, nf, cf) _ (regR_newS hBF (by first | omega | (simp; done) | (simp; omega)) hof rfl)
      ·
        go_simp
        refine hK.out _ _ ?_ (fun hHeld => ?_)
        · ((try dsimp only); (repeat' apply And.intro); all_goals ((repeat (first | (with_reducible refine cell_drew ?_) | (with_reducible refine cell_drewN _ ?_) | ((with_reducible refine cell_alloc ?_ ?_); · first | omega | (simp; done) | (simp; omega) | assumption) | ((with_reducible refine cell_set ?_ ?_); · first | (intro e; injection e; omega) | (intro e; simp at e; done) | (intro e; simp at e; omega)))); first | assumption | (simp; done)))
        clear hK K
        (try simp only [Act.put, List.setIfInBounds_toArray, List.set_cons_zero, List.set_cons_succ])
        refine wpAnyH_ready (rs := [3]) (by kernel_rfl) (by simp) ?_
        refine AllReadyH.cons rfl (fun K hK => ?_) (AllReadyH.nil)
        go_simp
        go_at_call 52; refine (addClue_any _ _ _ l_aP _ _ _ _ (Rd.of_own (by first | exact ogt | exact World.ownsRow.drew ogt | exact own_alloc ogt _ | exact World.ownsRow.drew (own_alloc ogt _))) ⟨_, _, rfl⟩ (by omega) (by omega) (by omega)).mono ?_; rintro e wf ⟨Af, nf, cf, rfl, hof, hbf⟩; have hBF := bcall2 hbf (a := w7) (by first | exact hBB | exact hBB.drew | exact (hBB.alloc hBB.size _) | exact (hBB.alloc hBB.size _).drew); have sf := hBF.size; have sf2 := hbf.size; (try simp at sf2); (first | (have bxc : wf.cell? ⟨w7.heap.size, 0, none⟩ = some (.slice none 0 0) := (hbf.cell (p := ⟨w7.heap.size, 0, none⟩) (by first | omega | (simp; done) | (simp; omega))).trans bxc; have bxf : wf.frozen? ⟨w7.heap.size, 0, none⟩ = false := (hbf.frozen (p := ⟨w7.heap.size, 0, none⟩) (by first | omega | (simp; done) | (simp; omega))).trans bxf) | (refine have bxc : wf.cell? ⟨wb.heap.size, 0, none⟩ = some (.slice none 0 0) := ?bxp; ?_; (case bxp => (refine (hbf.cell (p := ⟨wb.heap.size, 0, none⟩) ?_).trans ?_ <;> (simp [go_sem]; done))); (refine have bxf : wf.frozen? ⟨wb.heap.size, 0, none⟩ = false := ?bxp; ?_); (case bxp => (refine (hbf.frozen (p := ⟨wb.heap.size, 0, none⟩) ?_).trans ?_ <;> (simp [go_sem]; done)))) | skip); have df_0 : wf.cell? ⟨w6.heap.size, 0, none⟩ = some (.slice (some ⟨g_x0, 0, none⟩) n_aP n_aP) := (hBF.cell (p := ⟨w6.heap.size, 0, none⟩) (by first | omega | (simp; omega))).trans (by first | assumption | (go_split_ands; assumption)); have df_1 : wf.cell? ⟨w.heap.size + 1, 0, none⟩ = some (.int .i64 x_aC) := (hBF.cell (p := ⟨w.heap.size + 1, 0, none⟩) (by first | omega | (simp; omega))).trans (by first | assumption | (go_split_ands; assumption)); have df_2 : wf.cell? ⟨w.heap.size + 1, 1, none⟩ = some (.int .i64 y_aC) := (hBF.cell (p := ⟨w.heap.size + 1, 1, none⟩) (by first | omega | (simp; omega))).trans (by first | assumption | (go_split_ands; assumption)); have df_3 : wf.cell? ⟨w.heap.size + 1, 2, none⟩ = some (.int .i64 z_aC) := (hBF.cell (p := ⟨w.heap.size + 1, 2, none⟩) (by first | omega | (simp; omega))).trans (by first | assumption | (go_split_ands; assumption))
        refine hK.out _ _ ?_ (fun hHeld => ?_)
        · ((try dsimp only); (repeat' apply And.intro); all_goals ((repeat (first | (with_reducible refine cell_drew ?_) | (with_reducible refine cell_drewN _ ?_) | ((with_reducible refine cell_alloc ?_ ?_); · first | omega | (simp; done) | (simp; omega) | assumption) | ((with_reducible refine cell_set ?_ ?_); · first | (intro e; injection e; omega) | (intro e; simp at e; done) | (intro e; simp at e; omega)))); first | assumption | (simp; done)))
        clear hK K
        (try simp only [Act.put, List.setIfInBounds_toArray, List.set_cons_zero, List.set_cons_succ])
        refine reg_on (i := 4) (d := 31) (v := ?rv30) rfl rfl (by kernel_rfl) (by kernel_rfl) (by kernel_rfl) (fun _ _ _ h => h) (by rfl) ?ry30 (by assumption) ?rr30
        case ry30 => (intro wz hSw; (try dsimp only at hSw); go_simp; try with_reducible rfl)
        (try simp only [Act.put, List.setIfInBounds_toArray, List.set_cons_zero, List.set_cons_succ])
        refine reg_on (i := 5) (d := 36) (v := ?rv31) rfl rfl (by kernel_rfl) (by kernel_rfl) (by kernel_rfl) (fun _ _ _ h => h) (by rfl) ?ry31 (by assumption) ?rr31
        case ry31 => (intro wz hSw; (try dsimp only at hSw); go_simp; try with_reducible rfl)
        (try simp only [Act.put, List.setIfInBounds_toArray, List.set_cons_zero, List.set_cons_succ])
        refine reg_on (i := 6) (d := 37) (v := ?rv32) rfl rfl (by kernel_rfl) (by kernel_rfl) (by kernel_rfl) (fun _ _ _ h => h) (by rfl) ?ry32 (by assumption) ?rr32
        case ry32 => (intro wz hSw; (try dsimp only at hSw); go_simp; try with_reducible rfl)
        (try simp only [Act.put, List.setIfInBounds_toArray, List.set_cons_zero, List.set_cons_succ])
        refine wpAnyH_ready (rs := [8]) (by kernel_rfl) (by simp) ?_
        refine AllReadyH.cons rfl (fun K hK => ?_) AllReadyH.nil
        go_simp
        refine hK.out _ _ ?_ (fun hHeld => ?_)
        · ((try dsimp only); (repeat' apply And.intro); all_goals ((repeat (first | (with_reducible refine cell_drew ?_) | (with_reducible refine cell_drewN _ ?_) | ((with_reducible refine cell_alloc ?_ ?_); · first | omega | (simp; done) | (simp; omega) | assumption) | ((with_reducible refine cell_set ?_ ?_); · first | (intro e; injection e; omega) | (intro e; simp at e; done) | (intro e; simp at e; omega)))); first | assumption | (simp; done)))
        clear hK K
        (try simp only [Act.put, List.setIfInBounds_toArray, List.set_cons_zero, List.set_cons_succ])
        refine reg_on (i := 9) (d := 10) (v := ?rv34) rfl rfl (by kernel_rfl) (by kernel_rfl) (by kernel_rfl) (fun _ _ _ h => h) (by rfl) ?ry34 (by assumption) ?rr34
        case ry34 => (intro wz hSw; (try dsimp only at hSw); go_simp; try with_reducible rfl)
        (try simp only [Act.put, List.setIfInBounds_toArray, List.set_cons_zero, List.set_cons_succ])
        refine wpAnyH_done (by kernel_rfl) ?_ _
        first | exact TAIL (w7, 0, Af, nf, cf) _ (regR_set hBF (by first | omega | (simp; done) | (simp; omega)) (by first | omega | (simp; done) | (simp; omega)) (by first | omega | (simp; done) | (simp; omega)) bxc hof) | exact TAIL (wb, 0, Af, nf, cf) _ (regR_set hBF (by first | omega | (simp; done) | (simp; omega)) (by first | omega | (simp; done) | (simp; omega)) (by first | omega | (simp; done) | (simp; omega)) bxc hof) | exact TAIL (wf, 0, Af, nf, cf) _ (regR_new hBF (by first | omega | (simp; done) | (simp; omega)) hof) | exact TAIL (wf, 0, Af, nf, cf) _ (regR_newS hBF (by first | omega | (simp; done) | (simp; omega)) hof rfl)
    ·
      go_simp
      refine hK.out _ _ ?_ (fun hHeld => ?_)
      · ((try dsimp only); (repeat' apply And.intro); all_goals ((repeat (first | (with_reducible refine cell_drew ?_) | (with_reducible refine cell_drewN _ ?_) | ((with_reducible refine cell_alloc ?_ ?_); · first | omega | (simp; done) | (simp; omega) | assumption) | ((with_reducible refine cell_set ?_ ?_); · first | (intro e; injection e; omega) | (intro e; simp at e; done) | (intro e; simp at e; omega)))); first | assumption | (simp; done)))
      clear hK K
      (try simp only [Act.put, List.setIfInBounds_toArray, List.set_cons_zero, List.set_cons_succ])
      refine wpAnyH_ready (rs := [2]) (by kernel_rfl) (by simp) ?_
      refine AllReadyH.cons rfl (fun K hK => ?_) (AllReadyH.nil)
      go_simp
      go_at_call 19; refine (toClue_any _ _ _ _).mono ?_; rintro e wb ⟨rfl, hbb⟩; have hBB := bcall2 hbb (a := w7) (by first | exact (Below.refl w7.heap.size w7) | exact (Below.refl w7.heap.size w7).drew | exact ((Below.refl w7.heap.size w7).alloc (Below.refl w7.heap.size w7).size _) | exact ((Below.refl w7.heap.size w7).alloc (Below.refl w7.heap.size w7).size _).drew); have sb := hBB.size; have sb2 := hbb.size; (try simp at sb2); have ogt := own_later (by first | exact o_x0_7 | exact World.ownsRow.drew o_x0_7 | exact own_alloc o_x0_7 _ | exact World.ownsRow.drew (own_alloc o_x0_7 _)) hbb (Nat.le_refl _); (first | (refine have bxc : wb.cell? ⟨w7.heap.size, 0, none⟩ = some (.slice none 0 0) := ?bxp; ?_; (case bxp => (refine (hbb.cell (p := ⟨w7.heap.size, 0, none⟩) ?_).trans ?_ <;> (simp [go_sem]; done))); (refine have bxf : wb.frozen? ⟨w7.heap.size, 0, none⟩ = false := ?bxp; ?_); (case bxp => (refine (hbb.frozen (p := ⟨w7.heap.size, 0, none⟩) ?_).trans ?_ <;> (simp [go_sem]; done)))) | skip); have db_0 : wb.cell? ⟨w6.heap.size, 0, none⟩ = some (.slice (some ⟨g_x0, 0, none⟩) n_aP n_aP) := (hBB.cell (p := ⟨w6.heap.size, 0, none⟩) (by first | omega | (simp; omega))).trans (by first | assumption | (go_split_ands; assumption)); have db_1 : wb.cell? ⟨w.heap.size + 1, 0, none⟩ = some (.int .i64 x_aC) := (hBB.cell (p := ⟨w.heap.size + 1, 0, none⟩) (by first | omega | (simp; omega))).trans (by first | assumption | (go_split_ands; assumption)); have db_2 : wb.cell? ⟨w.heap.size + 1, 1, none⟩ = some (.int .i64 y_aC) := (hBB.cell (p := ⟨w.heap.size + 1, 1, none⟩) (by first | omega | (simp; omega))).trans (by first | assumption | (go_split_ands; assumption)); have db_3 : wb.cell? ⟨w.heap.size + 1, 2, none⟩ = some (.int .i64 z_aC) := (hBB.cell (p := ⟨w.heap.size + 1, 2, none⟩) (by first | omega | (simp; omega))).trans (by first | assumption | (go_split_ands; assumption))
      refine hK.out _ _ ?_ (fun hHeld => ?_)
      · ((try dsimp only); (repeat' apply And.intro); all_goals ((repeat (first | (with_reducible refine cell_drew ?_) | (with_reducible refine cell_drewN _ ?_) | ((with_reducible refine cell_alloc ?_ ?_); · first | omega | (simp; done) | (simp; omega) | assumption) | ((with_reducible refine cell_set ?_ ?_); · first | (intro e; injection e; omega) | (intro e; simp at e; done) | (intro e; simp at e; omega)))); first | assumption | (simp; done)))
      clear hK K
      (try simp only [Act.put, List.setIfInBounds_toArray, List.set_cons_zero, List.set_cons_succ])
      refine wpAnyH_ready (rs := [3]) (by kernel_rfl) (by simp) ?_
      refine AllReadyH.cons rfl (fun K hK => ?_) (AllReadyH.nil)
      go_simp
      go_at_call 52; refine (addClue_any _ _ _ l_aP _ _ _ _ (Rd.of_own (by first | exact ogt | exact World.ownsRow.drew ogt | exact own_alloc ogt _ | exact World.ownsRow.drew (own_alloc ogt _))) ⟨_, _, rfl⟩ (by omega) (by omega) (by omega)).mono ?_; rintro e wf ⟨Af, nf, cf, rfl, hof, hbf⟩; have hBF := bcall2 hbf (a := w7) (by first | exact hBB | exact hBB.drew | exact (hBB.alloc hBB.size _) | exact (hBB.alloc hBB.size _).drew); have sf := hBF.size; have sf2 := hbf.size; (try simp at sf2); (first | (have bxc : wf.cell? ⟨w7.heap.size, 0, none⟩ = some (.slice none 0 0) := (hbf.cell (p := ⟨w7.heap.size, 0, none⟩) (by first | omega | (simp; done) | (simp; omega))).trans bxc; have bxf : wf.frozen? ⟨w7.heap.size, 0, none⟩ = false := (hbf.frozen (p := ⟨w7.heap.size, 0, none⟩) (by first | omega | (simp; done) | (simp; omega))).trans bxf) | (refine have bxc : wf.cell? ⟨wb.heap.size, 0, none⟩ = some (.slice none 0 0) := ?bxp; ?_; (case bxp => (refine (hbf.cell (p := ⟨wb.heap.size, 0, none⟩) ?_).trans ?_ <;> (simp [go_sem]; done))); (refine have bxf : wf.frozen? ⟨wb.heap.size, 0, none⟩ = false := ?bxp; ?_); (case bxp => (refine (hbf.frozen (p := ⟨wb.heap.size, 0, none⟩) ?_).trans ?_ <;> (simp [go_sem]; done)))) | skip); have df_0 : wf.cell? ⟨w6.heap.size, 0, none⟩ = some (.slice (some ⟨g_x0, 0, none⟩) n_aP n_aP) := (hBF.cell (p := ⟨w6.heap.size, 0, none⟩) (by first | omega | (simp; omega))).trans (by first | assumption | (go_split_ands; assumption)); have df_1 : wf.cell? ⟨w.heap.size + 1, 0, none⟩ = some (.int .i64 x_aC) := (hBF.cell (p := ⟨w.heap.size + 1, 0, none⟩) (by first | omega | (simp; omega))).trans (by first | assumption | (go_split_ands; assumption)); have df_2 : wf.cell? ⟨w.heap.size + 1, 1, none⟩ = some (.int .i64 y_aC) := (hBF.cell (p := ⟨w.heap.size + 1, 1, none⟩) (by first | omega | (simp; omega))).trans (by first | assumption | (go_split_ands; assumption)); have df_3 : wf.cell? ⟨w.heap.size + 1, 2, none⟩ = some (.int .i64 z_aC) := (hBF.cell (p := ⟨w.heap.size + 1, 2, none⟩) (by first | omega | (simp; omega))).trans (by first | assumption | (go_split_ands; assumption))
      refine hK.out _ _ ?_ (fun hHeld => ?_)
      · ((try dsimp only); (repeat' apply And.intro); all_goals ((repeat (first | (with_reducible refine cell_drew ?_) | (with_reducible refine cell_drewN _ ?_) | ((with_reducible refine cell_alloc ?_ ?_); · first | omega | (simp; done) | (simp; omega) | assumption) | ((with_reducible refine cell_set ?_ ?_); · first | (intro e; injection e; omega) | (intro e; simp at e; done) | (intro e; simp at e; omega)))); first | assumption | (simp; done)))
      clear hK K
      (try simp only [Act.put, List.setIfInBounds_toArray, List.set_cons_zero, List.set_cons_succ])
      refine reg_on (i := 4) (d := 31) (v := ?rv35) rfl rfl (by kernel_rfl) (by kernel_rfl) (by kernel_rfl) (fun _ _ _ h => h) (by rfl) ?ry35 (by assumption) ?rr35
      case ry35 => (intro wz hSw; (try dsimp only at hSw); go_simp; try with_reducible rfl)
      (try simp only [Act.put, List.setIfInBounds_toArray, List.set_cons_zero, List.set_cons_succ])
      refine reg_on (i := 5) (d := 36) (v := ?rv36) rfl rfl (by kernel_rfl) (by kernel_rfl) (by kernel_rfl) (fun _ _ _ h => h) (by rfl) ?ry36 (by assumption) ?rr36
      case ry36 => (intro wz hSw; (try dsimp only at hSw); go_simp; try with_reducible rfl)
      (try simp only [Act.put, List.setIfInBounds_toArray, List.set_cons_zero, List.set_cons_succ])
      refine reg_on (i := 6) (d := 37) (v := ?rv37) rfl rfl (by kernel_rfl) (by kernel_rfl) (by kernel_rfl) (fun _ _ _ h => h) (by rfl) ?ry37 (by assumption) ?rr37
      case ry37 => (intro wz hSw; (try dsimp only at hSw); go_simp; try with_reducible rfl)
      (try simp only [Act.put, List.setIfInBounds_toArray, List.set_cons_zero, List.set_cons_succ])
      refine wpAnyH_ready (rs := [8]) (by kernel_rfl) (by simp) ?_
      refine AllReadyH.cons rfl (fun K hK => ?_) AllReadyH.nil
      go_simp
      refine hK.out _ _ ?_ (fun hHeld => ?_)
      · ((try dsimp only); (repeat' apply And.intro); all_goals ((repeat (first | (with_reducible refine cell_drew ?_) | (with_reducible refine cell_drewN _ ?_) | ((with_reducible refine cell_alloc ?_ ?_); · first | omega | (simp; done) | (simp; omega) | assumption) | ((with_reducible refine cell_set ?_ ?_); · first | (intro e; injection e; omega) | (intro e; simp at e; done) | (intro e; simp at e; omega)))); first | assumption | (simp; done)))
      clear hK K
      (try simp only [Act.put, List.setIfInBounds_toArray, List.set_cons_zero, List.set_cons_succ])
      refine reg_on (i := 9) (d := 10) (v := ?rv39) rfl rfl (by kernel_rfl) (by kernel_rfl) (by kernel_rfl) (fun _ _ _ h => h) (by rfl) ?ry39 (by assumption) ?rr39
      case ry39 => (intro wz hSw; (try dsimp only at hSw); go_simp; try with_reducible rfl)
      (try simp only [Act.put, List.setIfInBounds_toArray, List.set_cons_zero, List.set_cons_succ])
      refine wpAnyH_done (by kernel_rfl) ?_ _
      first | exact TAIL (w7, 0, Af, nf, cf) _ (regR_set hBF (by first | omega | (simp; done) | (simp; omega)) (by first | omega | (simp; done) | (simp; omega)) (by first | omega | (simp; done) | (simp; omega)) bxc hof) | exact TAIL (wb, 0, Af, nf, cf) _ (regR_set hBF (by first | omega | (simp; done) | (simp; omega)) (by first | omega | (simp; done) | (simp; omega)) (by first | omega | (simp; done) | (simp; omega)) bxc hof) | exact TAIL (wf, 0, Af, nf, cf) _ (regR_new hBF (by first | omega | (simp; done) | (simp; omega)) hof) | exact TAIL (wf, 0, Af, nf, cf) _ (regR_newS hBF (by first | omega | (simp; done) | (simp; omega)) hof rfl)
  rintro ⟨w8, gc_g0, A_g0, n_g0, c_g0⟩ w9 ⟨hb9, cs4_0_9, eb9, ec9, o_g0_9, ne_g0⟩
  dsimp only at hb9 cs4_0_9 eb9 ec9 o_g0_9 ne_g0 ⊢
  (try simp only [List.setIfInBounds_toArray, List.set_cons_zero, List.set_cons_succ])
  have s9 := hb9.size
  replace ne_g0 := Lib.hid ne_g0
  have bw9 : Below w.heap.size w w9 := bcall bw7.size hb9 bw7
  have q9 := bw9.size
  have o_w0_9 := own_later o_w0_7 hb9 (Nat.le_refl _)
  have o_x0_9 := own_later o_x0_7 hb9 (Nat.le_refl _)
  have bc_w0_9 : Below w5.heap.size w5 w9 := bc_w0_7.trans (hb9.mono (by omega))
  have cs0_0_9 := (hb9.cell (p := ⟨w.heap.size, 0, none⟩) (by show w.heap.size < w7.heap.size; omega)).trans cs0_0_7; clear cs0_0_7
  have zs0_9 : w.heap.size < w9.heap.size := by omega
  have cs1_0_9 := (hb9.cell (p := ⟨w1.heap.size, 0, none⟩) (by show w1.heap.size < w7.heap.size; omega)).trans cs1_0_7; clear cs1_0_7
  have cs1_1_9 := (hb9.cell (p := ⟨w1.heap.size, 1, none⟩) (by show w1.heap.size < w7.heap.size; omega)).trans cs1_1_7; clear cs1_1_7
  have cs1_2_9 := (hb9.cell (p := ⟨w1.heap.size, 2, none⟩) (by show w1.heap.size < w7.heap.size; omega)).trans cs1_2_7; clear cs1_2_7
  have zs1_9 : w1.heap.size < w9.heap.size := by omega
  have cs2_0_9 := (hb9.cell (p := ⟨w4.heap.size, 0, none⟩) (by show w4.heap.size < w7.heap.size; omega)).trans cs2_0_7; clear cs2_0_7
  have zs2_9 : w4.heap.size < w9.heap.size := by omega
  have cs3_0_9 := (hb9.cell (p := ⟨w6.heap.size, 0, none⟩) (by show w6.heap.size < w7.heap.size; omega)).trans cs3_0_7; clear cs3_0_7
  have zs3_9 : w6.heap.size < w9.heap.size := by omega
  have zs4_9 : w8.heap.size < w9.heap.size := ec9
  have lt_g0 := Lib.hid (fun g (h : (Value.slice A_g0 n_g0 c_g0).ownBlock = some g) => o_g0_9.lt g h)
  have ln_g0 : n_g0 ≤ 100000000 := by have h := o_g0_9.1; rw [length_boxCells] at h; have := length_addR l_aP (x_aC, y_aC, z_aC); omega
  go_wp2_with fail
  refine (eqPuzzle_same _ _ _ _ _ _ _ _ (Rd.of_own o_g0_9) (Rd.of_own o_w0_9) (by omega) (by omega)).mono ?_; rintro e w10 ⟨rfl, hb10⟩; have s10 := hb10.size
  have bw10 : Below w.heap.size w w10 := bcall bw9.size hb10 bw9
  have q10 := bw10.size
  have o_w0_10 := own_later o_w0_9 hb10 (Nat.le_refl _)
  have o_x0_10 := own_later o_x0_9 hb10 (Nat.le_refl _)
  have o_g0_10 := own_later o_g0_9 hb10 (Nat.le_refl _)
  have bc_w0_10 : Below w5.heap.size w5 w10 := bc_w0_9.trans (hb10.mono (by omega))
  have cs0_0_10 := (hb10.cell (p := ⟨w.heap.size, 0, none⟩) (by show w.heap.size < w9.heap.size; omega)).trans cs0_0_9; clear cs0_0_9
  have zs0_10 : w.heap.size < w10.heap.size := by omega
  have cs1_0_10 := (hb10.cell (p := ⟨w1.heap.size, 0, none⟩) (by show w1.heap.size < w9.heap.size; omega)).trans cs1_0_9; clear cs1_0_9
  have cs1_1_10 := (hb10.cell (p := ⟨w1.heap.size, 1, none⟩) (by show w1.heap.size < w9.heap.size; omega)).trans cs1_1_9; clear cs1_1_9
  have cs1_2_10 := (hb10.cell (p := ⟨w1.heap.size, 2, none⟩) (by show w1.heap.size < w9.heap.size; omega)).trans cs1_2_9; clear cs1_2_9
  have zs1_10 : w1.heap.size < w10.heap.size := by omega
  have cs2_0_10 := (hb10.cell (p := ⟨w4.heap.size, 0, none⟩) (by show w4.heap.size < w9.heap.size; omega)).trans cs2_0_9; clear cs2_0_9
  have zs2_10 : w4.heap.size < w10.heap.size := by omega
  have cs3_0_10 := (hb10.cell (p := ⟨w6.heap.size, 0, none⟩) (by show w6.heap.size < w9.heap.size; omega)).trans cs3_0_9; clear cs3_0_9
  have zs3_10 : w6.heap.size < w10.heap.size := by omega
  have cs4_0_10 := (hb10.cell (p := ⟨w8.heap.size, 0, none⟩) (by show w8.heap.size < w9.heap.size; omega)).trans cs4_0_9; clear cs4_0_9
  have zs4_10 : w8.heap.size < w10.heap.size := by omega
  go_wp2
  refine wp_region_held_drew (S := (fun w' => w'.cell? ⟨w.heap.size, 0, none⟩ = some (.slice A_aP n_aP c_aP) ∧ w'.cell? ⟨w6.heap.size, 0, none⟩ = some (.slice (some ⟨g_x0, 0, none⟩) n_aP n_aP))) (by kernel_rfl) ?_ (fun hHeld => ?_)
  · ((try dsimp only); (repeat' apply And.intro); all_goals ((repeat (first | (with_reducible refine cell_drew ?_) | (with_reducible refine cell_drewN _ ?_) | ((with_reducible refine cell_alloc ?_ ?_); · first | omega | (simp; done) | (simp; omega) | assumption) | ((with_reducible refine cell_set ?_ ?_); · first | (intro e; injection e; omega) | (intro e; simp at e; done) | (intro e; simp at e; omega)))); first | assumption | (simp; done)))
  refine reg_on (i := 0) (d := 47) (v := ?rv40) rfl rfl (by kernel_rfl) (by kernel_rfl) (by kernel_rfl) (fun _ _ _ h => h) (by rfl) ?ry40 (by assumption) ?rr40
  case ry40 => (intro wz hSw; (try dsimp only at hSw); go_simp; try with_reducible rfl)
  (try simp only [Act.put, List.setIfInBounds_toArray, List.set_cons_zero, List.set_cons_succ])
  refine reg_on (i := 1) (d := 48) (v := ?rv41) rfl rfl (by kernel_rfl) (by kernel_rfl) (by kernel_rfl) (fun _ _ _ h => h) (by rfl) ?ry41 (by assumption) ?rr41
  case ry41 => (intro wz hSw; (try dsimp only at hSw); go_simp; try with_reducible rfl)
  (try simp only [Act.put, List.setIfInBounds_toArray, List.set_cons_zero, List.set_cons_succ])
  refine wpAnyH_ready (rs := [2]) (by kernel_rfl) (by simp) ?_
  refine AllReadyH.cons rfl (fun K hK => ?_) AllReadyH.nil
  go_simp
  go_at_call 23; refine (toPuzzle_any _ _ _ l_aP _ (by exact (rd_aP.later bw10 (Nat.le_refl _)).later (Below.refl _ _).drew (Nat.le_refl _)) hn2_aP).mono ?_; rintro e w11 ⟨g_cy10, rfl, o_cy10_11, hb11⟩; have s11 := hb11.size; (try simp at s11); have d11_0 : w11.cell? ⟨w.heap.size, 0, none⟩ = some (.slice A_aP n_aP c_aP) := (hb11.cell (p := ⟨w.heap.size, 0, none⟩) (by first | omega | (simp; omega))).trans (by first | assumption | (go_split_ands; assumption)); have d11_1 : w11.cell? ⟨w6.heap.size, 0, none⟩ = some (.slice (some ⟨g_x0, 0, none⟩) n_aP n_aP) := (hb11.cell (p := ⟨w6.heap.size, 0, none⟩) (by first | omega | (simp; omega))).trans (by first | assumption | (go_split_ands; assumption))
  refine hK.out _ _ ?_ (fun hHeld => ?_)
  · ((try dsimp only); (repeat' apply And.intro); all_goals ((repeat (first | (with_reducible refine cell_drew ?_) | (with_reducible refine cell_drewN _ ?_) | ((with_reducible refine cell_alloc ?_ ?_); · first | omega | (simp; done) | (simp; omega) | assumption) | ((with_reducible refine cell_set ?_ ?_); · first | (intro e; injection e; omega) | (intro e; simp at e; done) | (intro e; simp at e; omega)))); first | assumption | (simp; done)))
  clear hK K
  (try simp only [Act.put, List.setIfInBounds_toArray, List.set_cons_zero, List.set_cons_succ])
  refine wpAnyH_ready (rs := [3]) (by kernel_rfl) (by simp) ?_
  refine AllReadyH.cons rfl (fun K hK => ?_) AllReadyH.nil
  go_simp
  go_at_call 25; refine (eqPuzzle_same _ _ _ _ _ _ _ _ (Rd.of_own (own_later (own_later o_x0_10 (Below.refl _ _).drew (Nat.le_refl _)) hb11 (Nat.le_refl _))) (Rd.of_own (by exact o_cy10_11)) (by omega) (by omega)).mono ?_; rintro e w12 ⟨rfl, hb12⟩; have s12 := hb12.size; (try simp at s12); have d12_0 : w12.cell? ⟨w.heap.size, 0, none⟩ = some (.slice A_aP n_aP c_aP) := (hb12.cell (p := ⟨w.heap.size, 0, none⟩) (by first | omega | (simp; omega))).trans (by first | assumption | (go_split_ands; assumption)); have d12_1 : w12.cell? ⟨w6.heap.size, 0, none⟩ = some (.slice (some ⟨g_x0, 0, none⟩) n_aP n_aP) := (hb12.cell (p := ⟨w6.heap.size, 0, none⟩) (by first | omega | (simp; omega))).trans (by first | assumption | (go_split_ands; assumption))
  refine hK.out _ _ ?_ (fun hHeld => ?_)
  · ((try dsimp only); (repeat' apply And.intro); all_goals ((repeat (first | (with_reducible refine cell_drew ?_) | (with_reducible refine cell_drewN _ ?_) | ((with_reducible refine cell_alloc ?_ ?_); · first | omega | (simp; done) | (simp; omega) | assumption) | ((with_reducible refine cell_set ?_ ?_); · first | (intro e; injection e; omega) | (intro e; simp at e; done) | (intro e; simp at e; omega)))); first | assumption | (simp; done)))
  clear hK K
  (try simp only [Act.put, List.setIfInBounds_toArray, List.set_cons_zero, List.set_cons_succ])
  refine reg_on (i := 4) (d := 51) (v := ?rv44) rfl rfl (by kernel_rfl) (by kernel_rfl) (by kernel_rfl) (fun _ _ _ h => h) (by rfl) ?ry44 (by assumption) ?rr44
  case ry44 => (intro wz hSw; (try dsimp only at hSw); go_simp; try with_reducible rfl)
  (try simp only [Act.put, List.setIfInBounds_toArray, List.set_cons_zero, List.set_cons_succ])
  refine wpAnyH_done (by kernel_rfl) ?_ _
  have bwd10 := bw10.drew
  have hbd10 : Below w10.heap.size w10 w11 := ((Below.refl _ _).drew).trans hb11
  replace hb12 := hbd10.trans (hb12.mono s11)
  replace s12 := hb12.size
  have bw12 : Below w.heap.size w w12 := bcall bw10.size hb12 bw10
  have q12 := bw12.size
  have o_w0_12 := own_later o_w0_10 hb12 (Nat.le_refl _)
  have o_x0_12 := own_later o_x0_10 hb12 (Nat.le_refl _)
  have o_g0_12 := own_later o_g0_10 hb12 (Nat.le_refl _)
  have bc_w0_12 : Below w5.heap.size w5 w12 := bc_w0_10.trans (hb12.mono (by omega))
  have cs0_0_12 := (hb12.cell (p := ⟨w.heap.size, 0, none⟩) (by show w.heap.size < w10.heap.size; omega)).trans cs0_0_10; clear cs0_0_10
  have zs0_12 : w.heap.size < w12.heap.size := by omega
  have cs1_0_12 := (hb12.cell (p := ⟨w1.heap.size, 0, none⟩) (by show w1.heap.size < w10.heap.size; omega)).trans cs1_0_10; clear cs1_0_10
  have cs1_1_12 := (hb12.cell (p := ⟨w1.heap.size, 1, none⟩) (by show w1.heap.size < w10.heap.size; omega)).trans cs1_1_10; clear cs1_1_10
  have cs1_2_12 := (hb12.cell (p := ⟨w1.heap.size, 2, none⟩) (by show w1.heap.size < w10.heap.size; omega)).trans cs1_2_10; clear cs1_2_10
  have zs1_12 : w1.heap.size < w12.heap.size := by omega
  have cs2_0_12 := (hb12.cell (p := ⟨w4.heap.size, 0, none⟩) (by show w4.heap.size < w10.heap.size; omega)).trans cs2_0_10; clear cs2_0_10
  have zs2_12 : w4.heap.size < w12.heap.size := by omega
  have cs3_0_12 := (hb12.cell (p := ⟨w6.heap.size, 0, none⟩) (by show w6.heap.size < w10.heap.size; omega)).trans cs3_0_10; clear cs3_0_10
  have zs3_12 : w6.heap.size < w12.heap.size := by omega
  have cs4_0_12 := (hb12.cell (p := ⟨w8.heap.size, 0, none⟩) (by show w8.heap.size < w10.heap.size; omega)).trans cs4_0_10; clear cs4_0_10
  have zs4_12 : w8.heap.size < w12.heap.size := by omega
  go_wp2_with fail
  refine (markPuzzle_g _ _ _ _ _ _ _ o_x0_12 (by omega) (by omega) (by omega)).mono ?_; rintro e w13 ⟨rfl, o_x0_13, hb13, hg13⟩; have s13 := hb13.size
  have m13 : w12.heap.size ≤ w13.heap.size := hg13.size
  have bw13 : Below w.heap.size w w13 := bw12.trans (hb13.mono (by omega))
  have q13 := bw13.size
  have cs0_0_13 := (World.cell?_of_block (a := ⟨w.heap.size, 0, none⟩) (hg13.block w.heap.size (by omega) (fun e => by have := lt_x0.out _ e.symm; omega))).trans cs0_0_12; clear cs0_0_12
  have zs0_13 : w.heap.size < w13.heap.size := by omega
  have cs1_0_13 := (World.cell?_of_block (a := ⟨w1.heap.size, 0, none⟩) (hg13.block w1.heap.size (by omega) (fun e => by have := lt_x0.out _ e.symm; omega))).trans cs1_0_12; clear cs1_0_12
  have cs1_1_13 := (World.cell?_of_block (a := ⟨w1.heap.size, 1, none⟩) (hg13.block w1.heap.size (by omega) (fun e => by have := lt_x0.out _ e.symm; omega))).trans cs1_1_12; clear cs1_1_12
  have cs1_2_13 := (World.cell?_of_block (a := ⟨w1.heap.size, 2, none⟩) (hg13.block w1.heap.size (by omega) (fun e => by have := lt_x0.out _ e.symm; omega))).trans cs1_2_12; clear cs1_2_12
  have zs1_13 : w1.heap.size < w13.heap.size := by omega
  have cs2_0_13 := (World.cell?_of_block (a := ⟨w4.heap.size, 0, none⟩) (hg13.block w4.heap.size (by omega) (fun e => by have := lt_x0.out _ e.symm; omega))).trans cs2_0_12; clear cs2_0_12
  have zs2_13 : w4.heap.size < w13.heap.size := by omega
  have cs3_0_13 := (World.cell?_of_block (a := ⟨w6.heap.size, 0, none⟩) (hg13.block w6.heap.size (by omega) (fun e => by have := lt_x0.out _ e.symm; omega))).trans cs3_0_12; clear cs3_0_12
  have zs3_13 : w6.heap.size < w13.heap.size := by omega
  have cs4_0_13 := (World.cell?_of_block (a := ⟨w8.heap.size, 0, none⟩) (hg13.block w8.heap.size (by omega) (fun e => by have := lt_x0.out _ e.symm; omega))).trans cs4_0_12; clear cs4_0_12
  have zs4_13 : w8.heap.size < w13.heap.size := by omega
  have bc_w0_13 : Below w5.heap.size w5 w13 := bc_w0_12.trans (hb13.mono (by omega))
  have o_w0_13 := o_w0_12.kept hg13 (own_apart (by exact lt_w0.out) (by exact lt_x0.out) (by omega))
  have o_g0_13 := o_g0_12.kept hg13 (own_apart (by exact lt_g0.out) (by exact lt_x0.out) (by omega))
  go_wp2_with fail
  refine (eqPuzzle_same _ _ _ _ _ _ _ _ (Rd.of_own o_g0_13) (Rd.of_own o_w0_13) (by omega) (by omega)).mono ?_; rintro e w14 ⟨rfl, hb14⟩; have s14 := hb14.size
  have bw14 : Below w.heap.size w w14 := bcall bw13.size hb14 bw13
  have q14 := bw14.size
  have o_w0_14 := own_later o_w0_13 hb14 (Nat.le_refl _)
  have o_x0_14 := own_later o_x0_13 hb14 (Nat.le_refl _)
  have o_g0_14 := own_later o_g0_13 hb14 (Nat.le_refl _)
  have bc_w0_14 : Below w5.heap.size w5 w14 := bc_w0_13.trans (hb14.mono (by omega))
  have cs0_0_14 := (hb14.cell (p := ⟨w.heap.size, 0, none⟩) (by show w.heap.size < w13.heap.size; omega)).trans cs0_0_13; clear cs0_0_13
  have zs0_14 : w.heap.size < w14.heap.size := by omega
  have cs1_0_14 := (hb14.cell (p := ⟨w1.heap.size, 0, none⟩) (by show w1.heap.size < w13.heap.size; omega)).trans cs1_0_13; clear cs1_0_13
  have cs1_1_14 := (hb14.cell (p := ⟨w1.heap.size, 1, none⟩) (by show w1.heap.size < w13.heap.size; omega)).trans cs1_1_13; clear cs1_1_13
  have cs1_2_14 := (hb14.cell (p := ⟨w1.heap.size, 2, none⟩) (by show w1.heap.size < w13.heap.size; omega)).trans cs1_2_13; clear cs1_2_13
  have zs1_14 : w1.heap.size < w14.heap.size := by omega
  have cs2_0_14 := (hb14.cell (p := ⟨w4.heap.size, 0, none⟩) (by show w4.heap.size < w13.heap.size; omega)).trans cs2_0_13; clear cs2_0_13
  have zs2_14 : w4.heap.size < w14.heap.size := by omega
  have cs3_0_14 := (hb14.cell (p := ⟨w6.heap.size, 0, none⟩) (by show w6.heap.size < w13.heap.size; omega)).trans cs3_0_13; clear cs3_0_13
  have zs3_14 : w6.heap.size < w14.heap.size := by omega
  have cs4_0_14 := (hb14.cell (p := ⟨w8.heap.size, 0, none⟩) (by show w8.heap.size < w13.heap.size; omega)).trans cs4_0_13; clear cs4_0_13
  have zs4_14 : w8.heap.size < w14.heap.size := by omega
  go_wp2_with fail
  refine (markPuzzle_g _ _ _ _ _ _ _ o_g0_14 (by omega) (by omega) (by omega)).mono ?_; rintro e w15 ⟨rfl, o_g0_15, hb15, hg15⟩; have s15 := hb15.size
  have m15 : w14.heap.size ≤ w15.heap.size := hg15.size
  have bw15 : Below w.heap.size w w15 := bw14.trans (hb15.mono (by omega))
  have q15 := bw15.size
  have cs0_0_15 := (World.cell?_of_block (a := ⟨w.heap.size, 0, none⟩) (hg15.block w.heap.size (by omega) (fun e => by have := lt_g0.out _ e.symm; have := ne_g0.out _ e.symm; omega))).trans cs0_0_14; clear cs0_0_14
  have zs0_15 : w.heap.size < w15.heap.size := by omega
  have cs1_0_15 := (World.cell?_of_block (a := ⟨w1.heap.size, 0, none⟩) (hg15.block w1.heap.size (by omega) (fun e => by have := lt_g0.out _ e.symm; have := ne_g0.out _ e.symm; omega))).trans cs1_0_14; clear cs1_0_14
  have cs1_1_15 := (World.cell?_of_block (a := ⟨w1.heap.size, 1, none⟩) (hg15.block w1.heap.size (by omega) (fun e => by have := lt_g0.out _ e.symm; have := ne_g0.out _ e.symm; omega))).trans cs1_1_14; clear cs1_1_14
  have cs1_2_15 := (World.cell?_of_block (a := ⟨w1.heap.size, 2, none⟩) (hg15.block w1.heap.size (by omega) (fun e => by have := lt_g0.out _ e.symm; have := ne_g0.out _ e.symm; omega))).trans cs1_2_14; clear cs1_2_14
  have zs1_15 : w1.heap.size < w15.heap.size := by omega
  have cs2_0_15 := (World.cell?_of_block (a := ⟨w4.heap.size, 0, none⟩) (hg15.block w4.heap.size (by omega) (fun e => by have := lt_g0.out _ e.symm; have := ne_g0.out _ e.symm; omega))).trans cs2_0_14; clear cs2_0_14
  have zs2_15 : w4.heap.size < w15.heap.size := by omega
  have cs3_0_15 := (World.cell?_of_block (a := ⟨w6.heap.size, 0, none⟩) (hg15.block w6.heap.size (by omega) (fun e => by have := lt_g0.out _ e.symm; have := ne_g0.out _ e.symm; omega))).trans cs3_0_14; clear cs3_0_14
  have zs3_15 : w6.heap.size < w15.heap.size := by omega
  have cs4_0_15 := (World.cell?_of_block (a := ⟨w8.heap.size, 0, none⟩) (hg15.block w8.heap.size (by omega) (fun e => by have := lt_g0.out _ e.symm; have := ne_g0.out _ e.symm; omega))).trans cs4_0_14; clear cs4_0_14
  have zs4_15 : w8.heap.size < w15.heap.size := by omega
  have bc_w0_15 : Below w5.heap.size w5 w15 := bc_w0_14.trans (hb15.mono (by omega))
  have o_w0_15 := o_w0_14.kept hg15 (own_apart (by exact lt_w0.out) (by exact lt_g0.out) (by omega))
  have o_x0_15 := o_x0_14.kept hg15 (own_apart (by exact lt_x0.out) (by exact lt_g0.out) (by omega))
  go_wp2_with fail
  refine (heldPuzzle_any _ _ _ _ _ (Rd.of_own o_g0_15) (by omega) (by omega) (by omega)).mono ?_; rintro e w16 ⟨rfl, hb16⟩; have s16 := hb16.size
  have bw16 : Below w.heap.size w w16 := bcall bw15.size hb16 bw15
  have q16 := bw16.size
  have o_w0_16 := own_later o_w0_15 hb16 (Nat.le_refl _)
  have o_x0_16 := own_later o_x0_15 hb16 (Nat.le_refl _)
  have o_g0_16 := own_later o_g0_15 hb16 (Nat.le_refl _)
  have bc_w0_16 : Below w5.heap.size w5 w16 := bc_w0_15.trans (hb16.mono (by omega))
  have cs0_0_16 := (hb16.cell (p := ⟨w.heap.size, 0, none⟩) (by show w.heap.size < w15.heap.size; omega)).trans cs0_0_15; clear cs0_0_15
  have zs0_16 : w.heap.size < w16.heap.size := by omega
  have cs1_0_16 := (hb16.cell (p := ⟨w1.heap.size, 0, none⟩) (by show w1.heap.size < w15.heap.size; omega)).trans cs1_0_15; clear cs1_0_15
  have cs1_1_16 := (hb16.cell (p := ⟨w1.heap.size, 1, none⟩) (by show w1.heap.size < w15.heap.size; omega)).trans cs1_1_15; clear cs1_1_15
  have cs1_2_16 := (hb16.cell (p := ⟨w1.heap.size, 2, none⟩) (by show w1.heap.size < w15.heap.size; omega)).trans cs1_2_15; clear cs1_2_15
  have zs1_16 : w1.heap.size < w16.heap.size := by omega
  have cs2_0_16 := (hb16.cell (p := ⟨w4.heap.size, 0, none⟩) (by show w4.heap.size < w15.heap.size; omega)).trans cs2_0_15; clear cs2_0_15
  have zs2_16 : w4.heap.size < w16.heap.size := by omega
  have cs3_0_16 := (hb16.cell (p := ⟨w6.heap.size, 0, none⟩) (by show w6.heap.size < w15.heap.size; omega)).trans cs3_0_15; clear cs3_0_15
  have zs3_16 : w6.heap.size < w16.heap.size := by omega
  have cs4_0_16 := (hb16.cell (p := ⟨w8.heap.size, 0, none⟩) (by show w8.heap.size < w15.heap.size; omega)).trans cs4_0_15; clear cs4_0_15
  have zs4_16 : w8.heap.size < w16.heap.size := by omega
  have cv16_0 : w16.cell? ⟨w.heap.size + 1, 0, none⟩ = some (.int .i64 x_aC) := by rw [← ew1]; exact cs1_0_16
  have cv16_1 : w16.cell? ⟨w.heap.size + 1, 1, none⟩ = some (.int .i64 y_aC) := by rw [← ew1]; exact cs1_1_16
  have cv16_2 : w16.cell? ⟨w.heap.size + 1, 2, none⟩ = some (.int .i64 z_aC) := by rw [← ew1]; exact cs1_2_16
  go_wp2
  refine tail_once (α := World × Nat × Option Addr × Nat × Nat) (fun x t => ((((((((((t.setIfInBounds 80 (.agg #[.slice A_aP n_aP c_aP])).setIfInBounds 81 (.agg #[.slice (some ⟨x.2.1, 0, none⟩) n_aP n_aP])).setIfInBounds 82 (bx3 x_aC y_aC z_aC)).setIfInBounds 83 (bx3 x_aC y_aC z_aC)).setIfInBounds 84 (.tuple #[.agg #[.slice x.2.2.1 x.2.2.2.1 x.2.2.2.2], .bool (addB l_aP (x_aC, y_aC, z_aC))])).setIfInBounds 79 (.tuple #[.agg #[.slice x.2.2.1 x.2.2.2.1 x.2.2.2.2], .bool (addB l_aP (x_aC, y_aC, z_aC))])).setIfInBounds 85 (.agg #[.slice x.2.2.1 x.2.2.2.1 x.2.2.2.2])).setIfInBounds 86 (.bool (addB l_aP (x_aC, y_aC, z_aC)))).setIfInBounds 14 (.pointer (some ⟨x.1.heap.size, 0, none⟩))).setIfInBounds 15 (.bool (addB l_aP (x_aC, y_aC, z_aC))))) (fun x w' => RegR w16 25 (boxCells (addR l_aP (x_aC, y_aC, z_aC))) x.1 x.2.2.1 x.2.2.2.1 x.2.2.2.2 w') ?_ (fun TAIL => ?_)
  rotate_left
  · dsimp only at TAIL
    (try simp only [List.setIfInBounds_toArray, List.set_cons_zero, List.set_cons_succ] at TAIL)
    refine wp_region_held_drew (S := (fun w' => w'.cell? ⟨w.heap.size, 0, none⟩ = some (.slice A_aP n_aP c_aP) ∧ w'.cell? ⟨w.heap.size + 1, 0, none⟩ = some (.int .i64 x_aC) ∧ w'.cell? ⟨w.heap.size + 1, 1, none⟩ = some (.int .i64 y_aC) ∧ w'.cell? ⟨w.heap.size + 1, 2, none⟩ = some (.int .i64 z_aC))) (by kernel_rfl) ?_ (fun hHeld => ?_)
    · ((try dsimp only); (repeat' apply And.intro); all_goals ((repeat (first | (with_reducible refine cell_drew ?_) | (with_reducible refine cell_drewN _ ?_) | ((with_reducible refine cell_alloc ?_ ?_); · first | omega | (simp; done) | (simp; omega) | assumption) | ((with_reducible refine cell_set ?_ ?_); · first | (intro e; injection e; omega) | (intro e; simp at e; done) | (intro e; simp at e; omega)))); first | assumption | (simp; done)))
    refine reg_on (i := 0) (d := 80) (v := ?rv45) rfl rfl (by kernel_rfl) (by kernel_rfl) (by kernel_rfl) (fun _ _ _ h => h) (by rfl) ?ry45 (by assumption) ?rr45
    case ry45 => (intro wz hSw; (try dsimp only at hSw); go_simp; try with_reducible rfl)
    (try simp only [Act.put, List.setIfInBounds_toArray, List.set_cons_zero, List.set_cons_succ])
    refine reg_on (i := 2) (d := 82) (v := ?rv46) rfl rfl (by kernel_rfl) (by kernel_rfl) (by kernel_rfl) (fun _ _ _ h => h) (by rfl) ?ry46 (by assumption) ?rr46
    case ry46 => (intro wz hSw; (try dsimp only at hSw); go_simp; try with_reducible rfl)
    (try simp only [Act.put, List.setIfInBounds_toArray, List.set_cons_zero, List.set_cons_succ])
    refine wpAnyH_ready (rs := [1, 8]) (by kernel_rfl) (by simp) ?_
    refine AllReadyH.cons rfl (fun K hK => ?_) (AllReadyH.cons rfl (fun K hK => ?_) (AllReadyH.nil))
    ·
      go_simp
      go_at_call 23; refine (toPuzzle_any _ _ _ l_aP _ (Rd.later (rd_aP.later bw16 (Nat.le_refl _)) (by first | exact (Below.refl w16.heap.size w16) | exact (Below.refl w16.heap.size w16).drew | exact ((Below.refl w16.heap.size w16).alloc (Below.refl w16.heap.size w16).size _) | exact ((Below.refl w16.heap.size w16).alloc (Below.refl w16.heap.size w16).size _).drew) (Nat.le_refl _)) hn2_aP).mono ?_; rintro e wa ⟨gs, rfl, ogs, hba⟩; have hBA := bcall2 hba (a := w16) (by first | exact (Below.refl w16.heap.size w16) | exact (Below.refl w16.heap.size w16).drew | exact ((Below.refl w16.heap.size w16).alloc (Below.refl w16.heap.size w16).size _) | exact ((Below.refl w16.heap.size w16).alloc (Below.refl w16.heap.size w16).size _).drew); have sa := hBA.size; have sa2 := hba.size; (try simp at sa2); (first | (refine have bxc : wa.cell? ⟨w16.heap.size, 0, none⟩ = some (.slice none 0 0) := ?bxp; ?_; (case bxp => (refine (hba.cell (p := ⟨w16.heap.size, 0, none⟩) ?_).trans ?_ <;> (simp [go_sem]; done))); (refine have bxf : wa.frozen? ⟨w16.heap.size, 0, none⟩ = false := ?bxp; ?_); (case bxp => (refine (hba.frozen (p := ⟨w16.heap.size, 0, none⟩) ?_).trans ?_ <;> (simp [go_sem]; done)))) | skip); have da_0 : wa.cell? ⟨w.heap.size, 0, none⟩ = some (.slice A_aP n_aP c_aP) := (hBA.cell (p := ⟨w.heap.size, 0, none⟩) (by first | omega | (simp; omega))).trans (by first | assumption | (go_split_ands; assumption)); have da_1 : wa.cell? ⟨w.heap.size + 1, 0, none⟩ = some (.int .i64 x_aC) := (hBA.cell (p := ⟨w.heap.size + 1, 0, none⟩) (by first | omega | (simp; omega))).trans (by first | assumption | (go_split_ands; assumption)); have da_2 : wa.cell? ⟨w.heap.size + 1, 1, none⟩ = some (.int .i64 y_aC) := (hBA.cell (p := ⟨w.heap.size + 1, 1, none⟩) (by first | omega | (simp; omega))).trans (by first | assumption | (go_split_ands; assumption)); have da_3 : wa.cell? ⟨w.heap.size + 1, 2, none⟩ = some (.int .i64 z_aC) := (hBA.cell (p := ⟨w.heap.size + 1, 2, none⟩) (by first | omega | (simp; omega))).trans (by first | assumption | (go_split_ands; assumption))
      refine hK.out _ _ ?_ (fun hHeld => ?_)
      · ((try dsimp only); (repeat' apply And.intro); all_goals ((repeat (first | (with_reducible refine cell_drew ?_) | (with_reducible refine cell_drewN _ ?_) | ((with_reducible refine cell_alloc ?_ ?_); · first | omega | (simp; done) | (simp; omega) | assumption) | ((with_reducible refine cell_set ?_ ?_); · first | (intro e; injection e; omega) | (intro e; simp at e; done) | (intro e; simp at e; omega)))); first | assumption | (simp; done)))
      clear hK K
      (try simp only [Act.put, List.setIfInBounds_toArray, List.set_cons_zero, List.set_cons_succ])
      refine wpAnyH_ready (rs := [3, 8]) (by kernel_rfl) (by simp) ?_
      refine AllReadyH.cons rfl (fun K hK => ?_) (AllReadyH.cons rfl (fun K hK => ?_) (AllReadyH.nil))
      ·
        go_simp
        go_at_call 19; refine (toClue_any _ _ _ _).mono ?_; rintro e wb ⟨rfl, hbb⟩; have hBB := bcall2 hbb (a := w16) (by first | exact hBA | exact hBA.drew | exact (hBA.alloc hBA.size _) | exact (hBA.alloc hBA.size _).drew); have sb := hBB.size; have sb2 := hbb.size; (try simp at sb2); have ogt := own_later (by first | exact ogs | exact World.ownsRow.drew ogs | exact own_alloc ogs _ | exact World.ownsRow.drew (own_alloc ogs _)) hbb (Nat.le_refl _); (first | (have bxc : wb.cell? ⟨w16.heap.size, 0, none⟩ = some (.slice none 0 0) := (hbb.cell (p := ⟨w16.heap.size, 0, none⟩) (by first | omega | (simp; done) | (simp; omega))).trans bxc; have bxf : wb.frozen? ⟨w16.heap.size, 0, none⟩ = false := (hbb.frozen (p := ⟨w16.heap.size, 0, none⟩) (by first | omega | (simp; done) | (simp; omega))).trans bxf) | (refine have bxc : wb.cell? ⟨wa.heap.size, 0, none⟩ = some (.slice none 0 0) := ?bxp; ?_; (case bxp => (refine (hbb.cell (p := ⟨wa.heap.size, 0, none⟩) ?_).trans ?_ <;> (simp [go_sem]; done))); (refine have bxf : wb.frozen? ⟨wa.heap.size, 0, none⟩ = false := ?bxp; ?_); (case bxp => (refine (hbb.frozen (p := ⟨wa.heap.size, 0, none⟩) ?_).trans ?_ <;> (simp [go_sem]; done)))) | skip); have db_0 : wb.cell? ⟨w.heap.size, 0, none⟩ = some (.slice A_aP n_aP c_aP) := (hBB.cell (p := ⟨w.heap.size, 0, none⟩) (by first | omega | (simp; omega))).trans (by first | assumption | (go_split_ands; assumption)); have db_1 : wb.cell? ⟨w.heap.size + 1, 0, none⟩ = some (.int .i64 x_aC) := (hBB.cell (p := ⟨w.heap.size + 1, 0, none⟩) (by first | omega | (simp; omega))).trans (by first | assumption | (go_split_ands; assumption)); have db_2 : wb.cell? ⟨w.heap.size + 1, 1, none⟩ = some (.int .i64 y_aC) := (hBB.cell (p := ⟨w.heap.size + 1, 1, none⟩) (by first | omega | (simp; omega))).trans (by first | assumption | (go_split_ands; assumption)); have db_3 : wb.cell? ⟨w.heap.size + 1, 2, none⟩ = some (.int .i64 z_aC) := (hBB.cell (p := ⟨w.heap.size + 1, 2, none⟩) (by first | omega | (simp; omega))).trans (by first | assumption | (go_split_ands; assumption))
        refine hK.out _ _ ?_ (fun hHeld => ?_)
        · ((try dsimp only); (repeat' apply And.intro); all_goals ((repeat (first | (with_reducible refine cell_drew ?_) | (with_reducible refine cell_drewN _ ?_) | ((with_reducible refine cell_alloc ?_ ?_); · first | omega | (simp; done) | (simp; omega) | assumption) | ((with_reducible refine cell_set ?_ ?_); · first | (intro e; injection e; omega) | (intro e; simp at e; done) | (intro e; simp at e; omega)))); first | assumption | (simp; done)))
        clear hK K
        (try simp only [Act.put, List.setIfInBounds_toArray, List.set_cons_zero, List.set_cons_succ])
        refine wpAnyH_ready (rs := [4, 8]) (by kernel_rfl) (by simp) ?_
        refine AllReadyH.cons rfl (fun K hK => ?_) (AllReadyH.cons rfl (fun K hK => ?_) (AllReadyH.nil))
        ·
          go_simp
          go_at_call 52; refine (addClue_any _ _ _ l_aP _ _ _ _ (Rd.of_own (by first | exact ogt | exact World.ownsRow.drew ogt | exact own_alloc ogt _ | exact World.ownsRow.drew (own_alloc ogt _))) ⟨_, _, rfl⟩ (by omega) (by omega) (by omega)).mono ?_; rintro e wf ⟨Af, nf, cf, rfl, hof, hbf⟩; have hBF := bcall2 hbf (a := w16) (by first | exact hBB | exact hBB.drew | exact (hBB.alloc hBB.size _) | exact (hBB.alloc hBB.size _).drew); have sf := hBF.size; have sf2 := hbf.size; (try simp at sf2); (first | (have bxc : wf.cell? ⟨w16.heap.size, 0, none⟩ = some (.slice none 0 0) := (hbf.cell (p := ⟨w16.heap.size, 0, none⟩) (by first | omega | (simp; done) | (simp; omega))).trans bxc; have bxf : wf.frozen? ⟨w16.heap.size, 0, none⟩ = false := (hbf.frozen (p := ⟨w16.heap.size, 0, none⟩) (by first | omega | (simp; done) | (simp; omega))).trans bxf) | (have bxc : wf.cell? ⟨wa.heap.size, 0, none⟩ = some (.slice none 0 0) := (hbf.cell (p := ⟨wa.heap.size, 0, none⟩) (by first | omega | (simp; done) | (simp; omega))).trans bxc; have bxf : wf.frozen? ⟨wa.heap.size, 0, none⟩ = false := (hbf.frozen (p := ⟨wa.heap.size, 0, none⟩) (by first | omega | (simp; done) | (simp; omega))).trans bxf) | (refine have bxc : wf.cell? ⟨wb.heap.size, 0, none⟩ = some (.slice none 0 0) := ?bxp; ?_; (case bxp => (refine (hbf.cell (p := ⟨wb.heap.size, 0, none⟩) ?_).trans ?_ <;> (simp [go_sem]; done))); (refine have bxf : wf.frozen? ⟨wb.heap.size, 0, none⟩ = false := ?bxp; ?_); (case bxp => (refine (hbf.frozen (p := ⟨wb.heap.size, 0, none⟩) ?_).trans ?_ <;> (simp [go_sem]; done)))) | skip); have df_0 : wf.cell? ⟨w.heap.size, 0, none⟩ = some (.slice A_aP n_aP c_aP) := (hBF.cell (p := ⟨w.heap.size, 0, none⟩) (by first | omega | (simp; omega))).trans (by first | assumption | (go_split_ands; assumption)); have df_1 : wf.cell? ⟨w.heap.size + 1, 0, none⟩ = some (.int .i64 x_aC) := (hBF.cell (p := ⟨w.heap.size + 1, 0, none⟩) (by first | omega | (simp; omega))).trans (by first | assumption | (go_split_ands; assumption)); have df_2 : wf.cell? ⟨w.heap.size + 1, 1, none⟩ = some (.int .i64 y_aC) := (hBF.cell (p := ⟨w.heap.size + 1, 1, none⟩) (by first | omega | (simp; omega))).trans (by first | assumption | (go_split_ands; assumption)); have df_3 : wf.cell? ⟨w.heap.size + 1, 2, none⟩ = some (.int .i64 z_aC) := (hBF.cell (p := ⟨w.heap.size + 1, 2, none⟩) (by first | omega | (simp; omega))).trans (by first | assumption | (go_split_ands; assumption))
          refine hK.out _ _ ?_ (fun hHeld => ?_)
          · ((try dsimp only); (repeat' apply And.intro); all_goals ((repeat (first | (with_reducible refine cell_drew ?_) | (with_reducible refine cell_drewN _ ?_) | ((with_reducible refine cell_alloc ?_ ?_); · first | omega | (simp; done) | (simp; omega) | assumption) | ((with_reducible refine cell_set ?_ ?_); · first | (intro e; injection e; omega) | (intro e; simp at e; done) | (intro e; simp at e; omega)))); first | assumption | (simp; done)))
          clear hK K
          (try simp only [Act.put, List.setIfInBounds_toArray, List.set_cons_zero, List.set_cons_succ])
          refine reg_on (i := 5) (d := 79) (v := ?rv47) rfl rfl (by kernel_rfl) (by kernel_rfl) (by kernel_rfl) (fun _ _ _ h => h) (by rfl) ?ry47 (by assumption) ?rr47
          case ry47 => (intro wz hSw; (try dsimp only at hSw); go_simp; try with_reducible rfl)
          (try simp only [Act.put, List.setIfInBounds_toArray, List.set_cons_zero, List.set_cons_succ])
          refine reg_on (i := 6) (d := 85) (v := ?rv48) rfl rfl (by kernel_rfl) (by kernel_rfl) (by kernel_rfl) (fun _ _ _ h => h) (by rfl) ?ry48 (by assumption) ?rr48
          case ry48 => (intro wz hSw; (try dsimp only at hSw); go_simp; try with_reducible rfl)
          (try simp only [Act.put, List.setIfInBounds_toArray, List.set_cons_zero, List.set_cons_succ])
          refine reg_on (i := 7) (d := 86) (v := ?rv49) rfl rfl (by kernel_rfl) (by kernel_rfl) (by kernel_rfl) (fun _ _ _ h => h) (by rfl) ?ry49 (by assumption) ?rr49
          case ry49 => (intro wz hSw; (try dsimp only at hSw); go_simp; try with_reducible rfl)
          (try simp only [Act.put, List.setIfInBounds_toArray, List.set_cons_zero, List.set_cons_succ])
          refine wpAnyH_ready (rs := [8]) (by kernel_rfl) (by simp) ?_
          refine AllReadyH.cons rfl (fun K hK => ?_) (AllReadyH.nil)
          go_simp
          refine hK.out _ _ ?_ (fun hHeld => ?_)
          · ((try dsimp only); (repeat' apply And.intro); all_goals ((repeat (first | (with_reducible refine cell_drew ?_) | (with_reducible refine cell_drewN _ ?_) | ((with_reducible refine cell_alloc ?_ ?_); · first | omega | (simp; done) | (simp; omega) | assumption) | ((with_reducible refine cell_set ?_ ?_); · first | (intro e; injection e; omega) | (intro e; simp at e; done) | (intro e; simp at e; omega)))); first | assumption | (simp; done)))
          clear hK K
          (try simp only [Act.put, List.setIfInBounds_toArray, List.set_cons_zero, List.set_cons_succ])
          refine wpAnyH_ready (rs := [9]) (by kernel_rfl) (by simp) ?_
          refine AllReadyH.cons rfl (fun K hK => ?_) AllReadyH.nil
          go_simp
          refine hK.out _ _ ?_ (fun hHeld => ?_)
          · ((try dsimp only); (repeat' apply And.intro); all_goals ((repeat (first | (with_reducible refine cell_drew ?_) | (with_reducible refine cell_drewN _ ?_) | ((with_reducible refine cell_alloc ?_ ?_); · first | omega | (simp; done) | (simp; omega) | assumption) | ((with_reducible refine cell_set ?_ ?_); · first | (intro e; injection e; omega) | (intro e; simp at e; done) | (intro e; simp at e; omega)))); first | assumption | (simp; done)))
          clear hK K
          (try simp only [Act.put, List.setIfInBounds_toArray, List.set_cons_zero, List.set_cons_succ])
          refine reg_on (i := 10) (d := 15) (v := ?rv51) rfl rfl (by kernel_rfl) (by kernel_rfl) (by kernel_rfl) (fun _ _ _ h => h) (by rfl) ?ry51 (by assumption) ?rr51
          case ry51 => (intro wz hSw; (try dsimp only at hSw); go_simp; try with_reducible rfl)
          (try simp only [Act.put, List.setIfInBounds_toArray, List.set_cons_zero, List.set_cons_succ])
          refine wpAnyH_done (by kernel_rfl) ?_ _
          first | exact TAIL (w16, gs, Af, nf, cf) _ (regR_set hBF (by first | omega | (simp; done) | (simp; omega)) (by first | omega | (simp; done) | (simp; omega)) (by first | omega | (simp; done) | (simp; omega)) bxc hof) | exact TAIL (wa, gs, Af, nf, cf) _ (regR_set hBF (by first | omega | (simp; done) | (simp; omega)) (by first | omega | (simp; done) | (simp; omega)) (by first | omega | (simp; done) | (simp; omega)) bxc hof) | exact TAIL (wb, gs, Af, nf, cf) _ (regR_set hBF (by first | omega | (simp; done) | (simp; omega)) (by first | omega | (simp; done) | (simp; omega)) (by first | omega | (simp; done) | (simp; omega)) bxc hof) | exact TAIL (wf, gs, Af, nf, cf) _ (regR_new hBF (by first | omega | (simp; done) | (simp; omega)) hof) | exact TAIL (wf, gs, Af, nf, cf) _ (regR_newS hBF (by first | omega | (simp; done) | (simp; omega)) hof rfl)
        ·
          go_simp
          refine hK.out _ _ ?_ (fun hHeld => ?_)
          · ((try dsimp only); (repeat' apply And.intro); all_goals ((repeat (first | (with_reducible refine cell_drew ?_) | (with_reducible refine cell_drewN _ ?_) | ((with_reducible refine cell_alloc ?_ ?_); · first | omega | (simp; done) | (simp; omega) | assumption) | ((with_reducible refine cell_set ?_ ?_); · first | (intro e; injection e; omega) | (intro e; simp at e; done) | (intro e; simp at e; omega)))); first | assumption | (simp; done)))
          clear hK K
          (try simp only [Act.put, List.setIfInBounds_toArray, List.set_cons_zero, List.set_cons_succ])
          refine wpAnyH_ready (rs := [4]) (by kernel_rfl) (by simp) ?_
          refine AllReadyH.cons rfl (fun K hK => ?_) (AllReadyH.nil)
          go_simp
          go_at_call 52; refine (addClue_any _ _ _ l_aP _ _ _ _ (Rd.of_own (by first | exact ogt | exact World.ownsRow.drew ogt | exact own_alloc ogt _ | exact World.ownsRow.drew (own_alloc ogt _))) ⟨_, _, rfl⟩ (by omega) (by omega) (by omega)).mono ?_; rintro e wf ⟨Af, nf, cf, rfl, hof, hbf⟩; have hBF := bcall2 hbf (a := w16) (by first | exact hBB | exact hBB.drew | exact (hBB.alloc hBB.size _) | exact (hBB.alloc hBB.size _).drew); have sf := hBF.size; have sf2 := hbf.size; (try simp at sf2); (first | (have bxc : wf.cell? ⟨w16.heap.size, 0, none⟩ = some (.slice none 0 0) := (hbf.cell (p := ⟨w16.heap.size, 0, none⟩) (by first | omega | (simp; done) | (simp; omega))).trans bxc; have bxf : wf.frozen? ⟨w16.heap.size, 0, none⟩ = false := (hbf.frozen (p := ⟨w16.heap.size, 0, none⟩) (by first | omega | (simp; done) | (simp; omega))).trans bxf) | (have bxc : wf.cell? ⟨wa.heap.size, 0, none⟩ = some (.slice none 0 0) := (hbf.cell (p := ⟨wa.heap.size, 0, none⟩) (by first | omega | (simp; done) | (simp; omega))).trans bxc; have bxf : wf.frozen? ⟨wa.heap.size, 0, none⟩ = false := (hbf.frozen (p := ⟨wa.heap.size, 0, none⟩) (by first | omega | (simp; done) | (simp; omega))).trans bxf) | (refine have bxc : wf.cell? ⟨wb.heap.size, 0, none⟩ = some (.slice none 0 0) := ?bxp; ?_; (case bxp => (refine (hbf.cell (p := ⟨wb.heap.size, 0, none⟩) ?_).trans ?_ <;> (simp [go_sem]; done))); (refine have bxf : wf.frozen? ⟨wb.heap.size, 0, none⟩ = false := ?bxp; ?_); (case bxp => (refine (hbf.frozen (p := ⟨wb.heap.size, 0, none⟩) ?_).trans ?_ <;> (simp [go_sem]; done)))) | skip); have df_0 : wf.cell? ⟨w.heap.size, 0, none⟩ = some (.slice A_aP n_aP c_aP) := (hBF.cell (p := ⟨w.heap.size, 0, none⟩) (by first | omega | (simp; omega))).trans (by first | assumption | (go_split_ands; assumption)); have df_1 : wf.cell? ⟨w.heap.size + 1, 0, none⟩ = some (.int .i64 x_aC) := (hBF.cell (p := ⟨w.heap.size + 1, 0, none⟩) (by first | omega | (simp; omega))).trans (by first | assumption | (go_split_ands; assumption)); have df_2 : wf.cell? ⟨w.heap.size + 1, 1, none⟩ = some (.int .i64 y_aC) := (hBF.cell (p := ⟨w.heap.size + 1, 1, none⟩) (by first | omega | (simp; omega))).trans (by first | assumption | (go_split_ands; assumption)); have df_3 : wf.cell? ⟨w.heap.size + 1, 2, none⟩ = some (.int .i64 z_aC) := (hBF.cell (p := ⟨w.heap.size + 1, 2, none⟩) (by first | omega | (simp; omega))).trans (by first | assumption | (go_split_ands; assumption))
          refine hK.out _ _ ?_ (fun hHeld => ?_)
          · ((try dsimp only); (repeat' apply And.intro); all_goals ((repeat (first | (with_reducible refine cell_drew ?_) | (with_reducible refine cell_drewN _ ?_) | ((with_reducible refine cell_alloc ?_ ?_); · first | omega | (simp; done) | (simp; omega) | assumption) | ((with_reducible refine cell_set ?_ ?_); · first | (intro e; injection e; omega) | (intro e; simp at e; done) | (intro e; simp at e; omega)))); first | assumption | (simp; done)))
          clear hK K
          (try simp only [Act.put, List.setIfInBounds_toArray, List.set_cons_zero, List.set_cons_succ])
          refine reg_on (i := 5) (d := 79) (v := ?rv52) rfl rfl (by kernel_rfl) (by kernel_rfl) (by kernel_rfl) (fun _ _ _ h => h) (by rfl) ?ry52 (by assumption) ?rr52
          case ry52 => (intro wz hSw; (try dsimp only at hSw); go_simp; try with_reducible rfl)
          (try simp only [Act.put, List.setIfInBounds_toArray, List.set_cons_zero, List.set_cons_succ])
          refine reg_on (i := 6) (d := 85) (v := ?rv53) rfl rfl (by kernel_rfl) (by kernel_rfl) (by kernel_rfl) (fun _ _ _ h => h) (by rfl) ?ry53 (by assumption) ?rr53
          case ry53 => (intro wz hSw; (try dsimp only at hSw); go_simp; try with_reducible rfl)
          (try simp only [Act.put, List.setIfInBounds_toArray, List.set_cons_zero, List.set_cons_succ])
          refine reg_on (i := 7) (d := 86) (v := ?rv54) rfl rfl (by kernel_rfl) (by kernel_rfl) (by kernel_rfl) (fun _ _ _ h => h) (by rfl) ?ry54 (by assumption) ?rr54
          case ry54 => (intro wz hSw; (try dsimp only at hSw); go_simp; try with_reducible rfl)
          (try simp only [Act.put, List.setIfInBounds_toArray, List.set_cons_zero, List.set_cons_succ])
          refine wpAnyH_ready (rs := [9]) (by kernel_rfl) (by simp) ?_
          refine AllReadyH.cons rfl (fun K hK => ?_) AllReadyH.nil
          go_simp
          refine hK.out _ _ ?_ (fun hHeld => ?_)
          · ((try dsimp only); (repeat' apply And.intro); all_goals ((repeat (first | (with_reducible refine cell_drew ?_) | (with_reducible refine cell_drewN _ ?_) | ((with_reducible refine cell_alloc ?_ ?_); · first | omega | (simp; done) | (simp; omega) | assumption) | ((with_reducible refine cell_set ?_ ?_); · first | (intro e; injection e; omega) | (intro e; simp at e; done) | (intro e; simp at e; omega)))); first | assumption | (simp; done)))
          clear hK K
          (try simp only [Act.put, List.setIfInBounds_toArray, List.set_cons_zero, List.set_cons_succ])
          refine reg_on (i := 10) (d := 15) (v := ?rv56) rfl rfl (by kernel_rfl) (by kernel_rfl) (by kernel_rfl) (fun _ _ _ h => h) (by rfl) ?ry56 (by assumption) ?rr56
          case ry56 => (intro wz hSw; (try dsimp only at hSw); go_simp; try with_reducible rfl)
          (try simp only [Act.put, List.setIfInBounds_toArray, List.set_cons_zero, List.set_cons_succ])
          refine wpAnyH_done (by kernel_rfl) ?_ _
          first | exact TAIL (w16, gs, Af, nf, cf) _ (regR_set hBF (by first | omega | (simp; done) | (simp; omega)) (by first | omega | (simp; done) | (simp; omega)) (by first | omega | (simp; done) | (simp; omega)) bxc hof) | exact TAIL (wa, gs, Af, nf, cf) _ (regR_set hBF (by first | omega | (simp; done) | (simp; omega)) (by first | omega | (simp; done) | (simp; omega)) (by first | omega | (simp; done) | (simp; omega)) bxc hof) | exact TAIL (wb, gs, Af, nf, cf) _ (regR_set hBF (by first | omega | (simp; done) | (simp; omega)) (by first | omega | (simp; done) | (simp; omega)) (by first | omega | (simp; done) | (simp; omega)) bxc hof) | exact TAIL (wf, gs, Af, nf, cf) _ (regR_new hBF (by first | omega | (simp; done) | (simp; omega)) hof) | exact TAIL (wf, gs, Af, nf, cf) _ (regR_newS hBF (by first | omega | (simp; done) | (simp; omega)) hof rfl)
      ·
        go_simp
        refine hK.out _ _ ?_ (fun hHeld => ?_)
        · ((try dsimp only); (repeat' apply And.intro); all_goals ((repeat (first | (with_reducible refine cell_drew ?_) | (with_reducible refine cell_drewN _ ?_) | ((with_reducible refine cell_alloc ?_ ?_); · first | omega | (simp; done) | (simp; omega) | assumption) | ((with_reducible refine cell_set ?_ ?_); · first | (intro e; injection e; omega) | (intro e; simp at e; done) | (intro e; simp at e; omega)))); first | assumption | (simp; done)))
        clear hK K
        (try simp only [Act.put, List.setIfInBounds_toArray, List.set_cons_zero, List.set_cons_succ])
        refine wpAnyH_ready (rs := [3]) (by kernel_rfl) (by simp) ?_
        refine AllReadyH.cons rfl (fun K hK => ?_) (AllReadyH.nil)
        go_simp
        go_at_call 19; refine (toClue_any _ _ _ _).mono ?_; rintro e wb ⟨rfl, hbb⟩; have hBB := bcall2 hbb (a := w16) (by first | exact hBA | exact hBA.drew | exact (hBA.alloc hBA.size _) | exact (hBA.alloc hBA.size _).drew); have sb := hBB.size; have sb2 := hbb.size; (try simp at sb2); have ogt := own_later (by first | exact ogs | exact World.ownsRow.drew ogs | exact own_alloc ogs _ | exact World.ownsRow.drew (own_alloc ogs _)) hbb (Nat.le_refl _); (first | (have bxc : wb.cell? ⟨w16.heap.size, 0, none⟩ = some (.slice none 0 0) := (hbb.cell (p := ⟨w16.heap.size, 0, none⟩) (by first | omega | (simp; done) | (simp; omega))).trans bxc; have bxf : wb.frozen? ⟨w16.heap.size, 0, none⟩ = false := (hbb.frozen (p := ⟨w16.heap.size, 0, none⟩) (by first | omega | (simp; done) | (simp; omega))).trans bxf) | (refine have bxc : wb.cell? ⟨wa.heap.size, 0, none⟩ = some (.slice none 0 0) := ?bxp; ?_; (case bxp => (refine (hbb.cell (p := ⟨wa.heap.size, 0, none⟩) ?_).trans ?_ <;> (simp [go_sem]; done))); (refine have bxf : wb.frozen? ⟨wa.heap.size, 0, none⟩ = false := ?bxp; ?_); (case bxp => (refine (hbb.frozen (p := ⟨wa.heap.size, 0, none⟩) ?_).trans ?_ <;> (simp [go_sem]; done)))) | skip); have db_0 : wb.cell? ⟨w.heap.size, 0, none⟩ = some (.slice A_aP n_aP c_aP) := (hBB.cell (p := ⟨w.heap.size, 0, none⟩) (by first | omega | (simp; omega))).trans (by first | assumption | (go_split_ands; assumption)); have db_1 : wb.cell? ⟨w.heap.size + 1, 0, none⟩ = some (.int .i64 x_aC) := (hBB.cell (p := ⟨w.heap.size + 1, 0, none⟩) (by first | omega | (simp; omega))).trans (by first | assumption | (go_split_ands; assumption)); have db_2 : wb.cell? ⟨w.heap.size + 1, 1, none⟩ = some (.int .i64 y_aC) := (hBB.cell (p := ⟨w.heap.size + 1, 1, none⟩) (by first | omega | (simp; omega))).trans (by first | assumption | (go_split_ands; assumption)); have db_3 : wb.cell? ⟨w.heap.size + 1, 2, none⟩ = some (.int .i64 z_aC) := (hBB.cell (p := ⟨w.heap.size + 1, 2, none⟩) (by first | omega | (simp; omega))).trans (by first | assumption | (go_split_ands; assumption))
        refine hK.out _ _ ?_ (fun hHeld => ?_)
        · ((try dsimp only); (repeat' apply And.intro); all_goals ((repeat (first | (with_reducible refine cell_drew ?_) | (with_reducible refine cell_drewN _ ?_) | ((with_reducible refine cell_alloc ?_ ?_); · first | omega | (simp; done) | (simp; omega) | assumption) | ((with_reducible refine cell_set ?_ ?_); · first | (intro e; injection e; omega) | (intro e; simp at e; done) | (intro e; simp at e; omega)))); first | assumption | (simp; done)))
        clear hK K
        (try simp only [Act.put, List.setIfInBounds_toArray, List.set_cons_zero, List.set_cons_succ])
        refine wpAnyH_ready (rs := [4]) (by kernel_rfl) (by simp) ?_
        refine AllReadyH.cons rfl (fun K hK => ?_) (AllReadyH.nil)
        go_simp
        go_at_call 52; refine (addClue_any _ _ _ l_aP _ _ _ _ (Rd.of_own (by first | exact ogt | exact World.ownsRow.drew ogt | exact own_alloc ogt _ | exact World.ownsRow.drew (own_alloc ogt _))) ⟨_, _, rfl⟩ (by omega) (by omega) (by omega)).mono ?_; rintro e wf ⟨Af, nf, cf, rfl, hof, hbf⟩; have hBF := bcall2 hbf (a := w16) (by first | exact hBB | exact hBB.drew | exact (hBB.alloc hBB.size _) | exact (hBB.alloc hBB.size _).drew); have sf := hBF.size; have sf2 := hbf.size; (try simp at sf2); (first | (have bxc : wf.cell? ⟨w16.heap.size, 0, none⟩ = some (.slice none 0 0) := (hbf.cell (p := ⟨w16.heap.size, 0, none⟩) (by first | omega | (simp; done) | (simp; omega))).trans bxc; have bxf : wf.frozen? ⟨w16.heap.size, 0, none⟩ = false := (hbf.frozen (p := ⟨w16.heap.size, 0, none⟩) (by first | omega | (simp; done) | (simp; omega))).trans bxf) | (have bxc : wf.cell? ⟨wa.heap.size, 0, none⟩ = some (.slice none 0 0) := (hbf.cell (p := ⟨wa.heap.size, 0, none⟩) (by first | omega | (simp; done) | (simp; omega))).trans bxc; have bxf : wf.frozen? ⟨wa.heap.size, 0, none⟩ = false := (hbf.frozen (p := ⟨wa.heap.size, 0, none⟩) (by first | omega | (simp; done) | (simp; omega))).trans bxf) | (refine have bxc : wf.cell? ⟨wb.heap.size, 0, none⟩ = some (.slice none 0 0) := ?bxp; ?_; (case bxp => (refine (hbf.cell (p := ⟨wb.heap.size, 0, none⟩) ?_).trans ?_ <;> (simp [go_sem]; done))); (refine have bxf : wf.frozen? ⟨wb.heap.size, 0, none⟩ = false := ?bxp; ?_); (case bxp => (refine (hbf.frozen (p := ⟨wb.heap.size, 0, none⟩) ?_).trans ?_ <;> (simp [go_sem]; done)))) | skip); have df_0 : wf.cell? ⟨w.heap.size, 0, none⟩ = some (.slice A_aP n_aP c_aP) := (hBF.cell (p := ⟨w.heap.size, 0, none⟩) (by first | omega | (simp; omega))).trans (by first | assumption | (go_split_ands; assumption)); have df_1 : wf.cell? ⟨w.heap.size + 1, 0, none⟩ = some (.int .i64 x_aC) := (hBF.cell (p := ⟨w.heap.size + 1, 0, none⟩) (by first | omega | (simp; omega))).trans (by first | assumption | (go_split_ands; assumption)); have df_2 : wf.cell? ⟨w.heap.size + 1, 1, none⟩ = some (.int .i64 y_aC) := (hBF.cell (p := ⟨w.heap.size + 1, 1, none⟩) (by first | omega | (simp; omega))).trans (by first | assumption | (go_split_ands; assumption)); have df_3 : wf.cell? ⟨w.heap.size + 1, 2, none⟩ = some (.int .i64 z_aC) := (hBF.cell (p := ⟨w.heap.size + 1, 2, none⟩) (by first | omega | (simp; omega))).trans (by first | assumption | (go_split_ands; assumption))
        refine hK.out _ _ ?_ (fun hHeld => ?_)
        · ((try dsimp only); (repeat' apply And.intro); all_goals ((repeat (first | (with_reducible refine cell_drew ?_) | (with_reducible refine cell_drewN _ ?_) | ((with_reducible refine cell_alloc ?_ ?_); · first | omega | (simp; done) | (simp; omega) | assumption) | ((with_reducible refine cell_set ?_ ?_); · first | (intro e; injection e; omega) | (intro e; simp at e; done) | (intro e; simp at e; omega)))); first | assumption | (simp; done)))
        clear hK K
        (try simp only [Act.put, List.setIfInBounds_toArray, List.set_cons_zero, List.set_cons_succ])
        refine reg_on (i := 5) (d := 79) (v := ?rv57) rfl rfl (by kernel_rfl) (by kernel_rfl) (by kernel_rfl) (fun _ _ _ h => h) (by rfl) ?ry57 (by assumption) ?rr57
        case ry57 => (intro wz hSw; (try dsimp only at hSw); go_simp; try with_reducible rfl)
        (try simp only [Act.put, List.setIfInBounds_toArray, List.set_cons_zero, List.set_cons_succ])
        refine reg_on (i := 6) (d := 85) (v := ?rv58) rfl rfl (by kernel_rfl) (by kernel_rfl) (by kernel_rfl) (fun _ _ _ h => h) (by rfl) ?ry58 (by assumption) ?rr58
        case ry58 => (intro wz hSw; (try dsimp only at hSw); go_simp; try with_reducible rfl)
        (try simp only [Act.put, List.setIfInBounds_toArray, List.set_cons_zero, List.set_cons_succ])
        refine reg_on (i := 7) (d := 86) (v := ?rv59) rfl rfl (by kernel_rfl) (by kernel_rfl) (by kernel_rfl) (fun _ _ _ h => h) (by rfl) ?ry59 (by assumption) ?rr59
        case ry59 => (intro wz hSw; (try dsimp only at hSw); go_simp; try with_reducible rfl)
        (try simp only [Act.put, List.setIfInBounds_toArray, List.set_cons_zero, List.set_cons_succ])
        refine wpAnyH_ready (rs := [9]) (by kernel_rfl) (by simp) ?_
        refine AllReadyH.cons rfl (fun K hK => ?_) AllReadyH.nil
        go_simp
        refine hK.out _ _ ?_ (fun hHeld => ?_)
        · ((try dsimp only); (repeat' apply And.intro); all_goals ((repeat (first | (with_reducible refine cell_drew ?_) | (with_reducible refine cell_drewN _ ?_) | ((with_reducible refine cell_alloc ?_ ?_); · first | omega | (simp; done) | (simp; omega) | assumption) | ((with_reducible refine cell_set ?_ ?_); · first | (intro e; injection e; omega) | (intro e; simp at e; done) | (intro e; simp at e; omega)))); first | assumption | (simp; done)))
        clear hK K
        (try simp only [Act.put, List.setIfInBounds_toArray, List.set_cons_zero, List.set_cons_succ])
        refine reg_on (i := 10) (d := 15) (v := ?rv61) rfl rfl (by kernel_rfl) (by kernel_rfl) (by kernel_rfl) (fun _ _ _ h => h) (by rfl) ?ry61 (by assumption) ?rr61
        case ry61 => (intro wz hSw; (try dsimp only at hSw); go_simp; try with_reducible rfl)
        (try simp only [Act.put, List.setIfInBounds_toArray, List.set_cons_zero, List.set_cons_succ])
        refine wpAnyH_done (by kernel_rfl) ?_ _
        first | exact TAIL (w16, gs, Af, nf, cf) _ (regR_set hBF (by first | omega | (simp; done) | (simp; omega)) (by first | omega | (simp; done) | (simp; omega)) (by first | omega | (simp; done) | (simp; omega)) bxc hof) | exact TAIL (wa, gs, Af, nf, cf) _ (regR_set hBF (by first | omega | (simp; done) | (simp; omega)) (by first | omega | (simp; done) | (simp; omega)) (by first | omega | (simp; done) | (simp; omega)) bxc hof) | exact TAIL (wb, gs, Af, nf, cf) _ (regR_set hBF (by first | omega | (simp; done) | (simp; omega)) (by first | omega | (simp; done) | (simp; omega)) (by first | omega | (simp; done) | (simp; omega)) bxc hof) | exact TAIL (wf, gs, Af, nf, cf) _ (regR_new hBF (by first | omega | (simp; done) | (simp; omega)) hof) | exact TAIL (wf, gs, Af, nf, cf) _ (regR_newS hBF (by first | omega | (simp; done) | (simp; omega)) hof rfl)
    ·
      go_simp
      refine hK.out _ _ ?_ (fun hHeld => ?_)
      · ((try dsimp only); (repeat' apply And.intro); all_goals ((repeat (first | (with_reducible refine cell_drew ?_) | (with_reducible refine cell_drewN _ ?_) | ((with_reducible refine cell_alloc ?_ ?_); · first | omega | (simp; done) | (simp; omega) | assumption) | ((with_reducible refine cell_set ?_ ?_); · first | (intro e; injection e; omega) | (intro e; simp at e; done) | (intro e; simp at e; omega)))); first | assumption | (simp; done)))
      clear hK K
      (try simp only [Act.put, List.setIfInBounds_toArray, List.set_cons_zero, List.set_cons_succ])
      refine wpAnyH_ready (rs := [1]) (by kernel_rfl) (by simp) ?_
      refine AllReadyH.cons rfl (fun K hK => ?_) (AllReadyH.nil)
      go_simp
      go_at_call 23; refine (toPuzzle_any _ _ _ l_aP _ (Rd.later (rd_aP.later bw16 (Nat.le_refl _)) (by first | exact (Below.refl w16.heap.size w16) | exact (Below.refl w16.heap.size w16).drew | exact ((Below.refl w16.heap.size w16).alloc (Below.refl w16.heap.size w16).size _) | exact ((Below.refl w16.heap.size w16).alloc (Below.refl w16.heap.size w16).size _).drew) (Nat.le_refl _)) hn2_aP).mono ?_; rintro e wa ⟨gs, rfl, ogs, hba⟩; have hBA := bcall2 hba (a := w16) (by first | exact (Below.refl w16.heap.size w16) | exact (Below.refl w16.heap.size w16).drew | exact ((Below.refl w16.heap.size w16).alloc (Below.refl w16.heap.size w16).size _) | exact ((Below.refl w16.heap.size w16).alloc (Below.refl w16.heap.size w16).size _).drew); have sa := hBA.size; have sa2 := hba.size; (try simp at sa2); (first | (refine have bxc : wa.cell? ⟨w16.heap.size, 0, none⟩ = some (.slice none 0 0) := ?bxp; ?_; (case bxp => (refine (hba.cell (p := ⟨w16.heap.size, 0, none⟩) ?_).trans ?_ <;> (simp [go_sem]; done))); (refine have bxf : wa.frozen? ⟨w16.heap.size, 0, none⟩ = false := ?bxp; ?_); (case bxp => (refine (hba.frozen (p := ⟨w16.heap.size, 0, none⟩) ?_).trans ?_ <;> (simp [go_sem]; done)))) | skip); have da_0 : wa.cell? ⟨w.heap.size, 0, none⟩ = some (.slice A_aP n_aP c_aP) := (hBA.cell (p := ⟨w.heap.size, 0, none⟩) (by first | omega | (simp; omega))).trans (by first | assumption | (go_split_ands; assumption)); have da_1 : wa.cell? ⟨w.heap.size + 1, 0, none⟩ = some (.int .i64 x_aC) := (hBA.cell (p := ⟨w.heap.size + 1, 0, none⟩) (by first | omega | (simp; omega))).trans (by first | assumption | (go_split_ands; assumption)); have da_2 : wa.cell? ⟨w.heap.size + 1, 1, none⟩ = some (.int .i64 y_aC) := (hBA.cell (p := ⟨w.heap.size + 1, 1, none⟩) (by first | omega | (simp; omega))).trans (by first | assumption | (go_split_ands; assumption)); have da_3 : wa.cell? ⟨w.heap.size + 1, 2, none⟩ = some (.int .i64 z_aC) := (hBA.cell (p := ⟨w.heap.size + 1, 2, none⟩) (by first | omega | (simp; omega))).trans (by first | assumption | (go_split_ands; assumption))
      refine hK.out _ _ ?_ (fun hHeld => ?_)
      · ((try dsimp only); (repeat' apply And.intro); all_goals ((repeat (first | (with_reducible refine cell_drew ?_) | (with_reducible refine cell_drewN _ ?_) | ((with_reducible refine cell_alloc ?_ ?_); · first | omega | (simp; done) | (simp; omega) | assumption) | ((with_reducible refine cell_set ?_ ?_); · first | (intro e; injection e; omega) | (intro e; simp at e; done) | (intro e; simp at e; omega)))); first | assumption | (simp; done)))
      clear hK K
      (try simp only [Act.put, List.setIfInBounds_toArray, List.set_cons_zero, List.set_cons_succ])
      refine wpAnyH_ready (rs := [3]) (by kernel_rfl) (by simp) ?_
      refine AllReadyH.cons rfl (fun K hK => ?_) (AllReadyH.nil)
      go_simp
      go_at_call 19; refine (toClue_any _ _ _ _).mono ?_; rintro e wb ⟨rfl, hbb⟩; have hBB := bcall2 hbb (a := w16) (by first | exact hBA | exact hBA.drew | exact (hBA.alloc hBA.size _) | exact (hBA.alloc hBA.size _).drew); have sb := hBB.size; have sb2 := hbb.size; (try simp at sb2); have ogt := own_later (by first | exact ogs | exact World.ownsRow.drew ogs | exact own_alloc ogs _ | exact World.ownsRow.drew (own_alloc ogs _)) hbb (Nat.le_refl _); (first | (have bxc : wb.cell? ⟨w16.heap.size, 0, none⟩ = some (.slice none 0 0) := (hbb.cell (p := ⟨w16.heap.size, 0, none⟩) (by first | omega | (simp; done) | (simp; omega))).trans bxc; have bxf : wb.frozen? ⟨w16.heap.size, 0, none⟩ = false := (hbb.frozen (p := ⟨w16.heap.size, 0, none⟩) (by first | omega | (simp; done) | (simp; omega))).trans bxf) | (refine have bxc : wb.cell? ⟨wa.heap.size, 0, none⟩ = some (.slice none 0 0) := ?bxp; ?_; (case bxp => (refine (hbb.cell (p := ⟨wa.heap.size, 0, none⟩) ?_).trans ?_ <;> (simp [go_sem]; done))); (refine have bxf : wb.frozen? ⟨wa.heap.size, 0, none⟩ = false := ?bxp; ?_); (case bxp => (refine (hbb.frozen (p := ⟨wa.heap.size, 0, none⟩) ?_).trans ?_ <;> (simp [go_sem]; done)))) | skip); have db_0 : wb.cell? ⟨w.heap.size, 0, none⟩ = some (.slice A_aP n_aP c_aP) := (hBB.cell (p := ⟨w.heap.size, 0, none⟩) (by first | omega | (simp; omega))).trans (by first | assumption | (go_split_ands; assumption)); have db_1 : wb.cell? ⟨w.heap.size + 1, 0, none⟩ = some (.int .i64 x_aC) := (hBB.cell (p := ⟨w.heap.size + 1, 0, none⟩) (by first | omega | (simp; omega))).trans (by first | assumption | (go_split_ands; assumption)); have db_2 : wb.cell? ⟨w.heap.size + 1, 1, none⟩ = some (.int .i64 y_aC) := (hBB.cell (p := ⟨w.heap.size + 1, 1, none⟩) (by first | omega | (simp; omega))).trans (by first | assumption | (go_split_ands; assumption)); have db_3 : wb.cell? ⟨w.heap.size + 1, 2, none⟩ = some (.int .i64 z_aC) := (hBB.cell (p := ⟨w.heap.size + 1, 2, none⟩) (by first | omega | (simp; omega))).trans (by first | assumption | (go_split_ands; assumption))
      refine hK.out _ _ ?_ (fun hHeld => ?_)
      · ((try dsimp only); (repeat' apply And.intro); all_goals ((repeat (first | (with_reducible refine cell_drew ?_) | (with_reducible refine cell_drewN _ ?_) | ((with_reducible refine cell_alloc ?_ ?_); · first | omega | (simp; done) | (simp; omega) | assumption) | ((with_reducible refine cell_set ?_ ?_); · first | (intro e; injection e; omega) | (intro e; simp at e; done) | (intro e; simp at e; omega)))); first | assumption | (simp; done)))
      clear hK K
      (try simp only [Act.put, List.setIfInBounds_toArray, List.set_cons_zero, List.set_cons_succ])
      refine wpAnyH_ready (rs := [4]) (by kernel_rfl) (by simp) ?_
      refine AllReadyH.cons rfl (fun K hK => ?_) (AllReadyH.nil)
      go_simp
      go_at_call 52; refine (addClue_any _ _ _ l_aP _ _ _ _ (Rd.of_own (by first | exact ogt | exact World.ownsRow.drew ogt | exact own_alloc ogt _ | exact World.ownsRow.drew (own_alloc ogt _))) ⟨_, _, rfl⟩ (by omega) (by omega) (by omega)).mono ?_; rintro e wf ⟨Af, nf, cf, rfl, hof, hbf⟩; have hBF := bcall2 hbf (a := w16) (by first | exact hBB | exact hBB.drew | exact (hBB.alloc hBB.size _) | exact (hBB.alloc hBB.size _).drew); have sf := hBF.size; have sf2 := hbf.size; (try simp at sf2); (first | (have bxc : wf.cell? ⟨w16.heap.size, 0, none⟩ = some (.slice none 0 0) := (hbf.cell (p := ⟨w16.heap.size, 0, none⟩) (by first | omega | (simp; done) | (simp; omega))).trans bxc; have bxf : wf.frozen? ⟨w16.heap.size, 0, none⟩ = false := (hbf.frozen (p := ⟨w16.heap.size, 0, none⟩) (by first | omega | (simp; done) | (simp; omega))).trans bxf) | (have bxc : wf.cell? ⟨wa.heap.size, 0, none⟩ = some (.slice none 0 0) := (hbf.cell (p := ⟨wa.heap.size, 0, none⟩) (by first | omega | (simp; done) | (simp; omega))).trans bxc; have bxf : wf.frozen? ⟨wa.heap.size, 0, none⟩ = false := (hbf.frozen (p := ⟨wa.heap.size, 0, none⟩) (by first | omega | (simp; done) | (simp; omega))).trans bxf) | (refine have bxc : wf.cell? ⟨wb.heap.size, 0, none⟩ = some (.slice none 0 0) := ?bxp; ?_; (case bxp => (refine (hbf.cell (p := ⟨wb.heap.size, 0, none⟩) ?_).trans ?_ <;> (simp [go_sem]; done))); (refine have bxf : wf.frozen? ⟨wb.heap.size, 0, none⟩ = false := ?bxp; ?_); (case bxp => (refine (hbf.frozen (p := ⟨wb.heap.size, 0, none⟩) ?_).trans ?_ <;> (simp [go_sem]; done)))) | skip); have df_0 : wf.cell? ⟨w.heap.size, 0, none⟩ = some (.slice A_aP n_aP c_aP) := (hBF.cell (p := ⟨w.heap.size, 0, none⟩) (by first | omega | (simp; omega))).trans (by first | assumption | (go_split_ands; assumption)); have df_1 : wf.cell? ⟨w.heap.size + 1, 0, none⟩ = some (.int .i64 x_aC) := (hBF.cell (p := ⟨w.heap.size + 1, 0, none⟩) (by first | omega | (simp; omega))).trans (by first | assumption | (go_split_ands; assumption)); have df_2 : wf.cell? ⟨w.heap.size + 1, 1, none⟩ = some (.int .i64 y_aC) := (hBF.cell (p := ⟨w.heap.size + 1, 1, none⟩) (by first | omega | (simp; omega))).trans (by first | assumption | (go_split_ands; assumption)); have df_3 : wf.cell? ⟨w.heap.size + 1, 2, none⟩ = some (.int .i64 z_aC) := (hBF.cell (p := ⟨w.heap.size + 1, 2, none⟩) (by first | omega | (simp; omega))).trans (by first | assumption | (go_split_ands; assumption))
      refine hK.out _ _ ?_ (fun hHeld => ?_)
      · ((try dsimp only); (repeat' apply And.intro); all_goals ((repeat (first | (with_reducible refine cell_drew ?_) | (with_reducible refine cell_drewN _ ?_) | ((with_reducible refine cell_alloc ?_ ?_); · first | omega | (simp; done) | (simp; omega) | assumption) | ((with_reducible refine cell_set ?_ ?_); · first | (intro e; injection e; omega) | (intro e; simp at e; done) | (intro e; simp at e; omega)))); first | assumption | (simp; done)))
      clear hK K
      (try simp only [Act.put, List.setIfInBounds_toArray, List.set_cons_zero, List.set_cons_succ])
      refine reg_on (i := 5) (d := 79) (v := ?rv62) rfl rfl (by kernel_rfl) (by kernel_rfl) (by kernel_rfl) (fun _ _ _ h => h) (by rfl) ?ry62 (by assumption) ?rr62
      case ry62 => (intro wz hSw; (try dsimp only at hSw); go_simp; try with_reducible rfl)
      (try simp only [Act.put, List.setIfInBounds_toArray, List.set_cons_zero, List.set_cons_succ])
      refine reg_on (i := 6) (d := 85) (v := ?rv63) rfl rfl (by kernel_rfl) (by kernel_rfl) (by kernel_rfl) (fun _ _ _ h => h) (by rfl) ?ry63 (by assumption) ?rr63
      case ry63 => (intro wz hSw; (try dsimp only at hSw); go_simp; try with_reducible rfl)
      (try simp only [Act.put, List.setIfInBounds_toArray, List.set_cons_zero, List.set_cons_succ])
      refine reg_on (i := 7) (d := 86) (v := ?rv64) rfl rfl (by kernel_rfl) (by kernel_rfl) (by kernel_rfl) (fun _ _ _ h => h) (by rfl) ?ry64 (by assumption) ?rr64
      case ry64 => (intro wz hSw; (try dsimp only at hSw); go_simp; try with_reducible rfl)
      (try simp only [Act.put, List.setIfInBounds_toArray, List.set_cons_zero, List.set_cons_succ])
      refine wpAnyH_ready (rs := [9]) (by kernel_rfl) (by simp) ?_
      refine AllReadyH.cons rfl (fun K hK => ?_) AllReadyH.nil
      go_simp
      refine hK.out _ _ ?_ (fun hHeld => ?_)
      · ((try dsimp only); (repeat' apply And.intro); all_goals ((repeat (first | (with_reducible refine cell_drew ?_) | (with_reducible refine cell_drewN _ ?_) | ((with_reducible refine cell_alloc ?_ ?_); · first | omega | (simp; done) | (simp; omega) | assumption) | ((with_reducible refine cell_set ?_ ?_); · first | (intro e; injection e; omega) | (intro e; simp at e; done) | (intro e; simp at e; omega)))); first | assumption | (simp; done)))
      clear hK K
      (try simp only [Act.put, List.setIfInBounds_toArray, List.set_cons_zero, List.set_cons_succ])
      refine reg_on (i := 10) (d := 15) (v := ?rv66) rfl rfl (by kernel_rfl) (by kernel_rfl) (by kernel_rfl) (fun _ _ _ h => h) (by rfl) ?ry66 (by assumption) ?rr66
      case ry66 => (intro wz hSw; (try dsimp only at hSw); go_simp; try with_reducible rfl)
      (try simp only [Act.put, List.setIfInBounds_toArray, List.set_cons_zero, List.set_cons_succ])
      refine wpAnyH_done (by kernel_rfl) ?_ _
      first | exact TAIL (w16, gs, Af, nf, cf) _ (regR_set hBF (by first | omega | (simp; done) | (simp; omega)) (by first | omega | (simp; done) | (simp; omega)) (by first | omega | (simp; done) | (simp; omega)) bxc hof) | exact TAIL (wa, gs, Af, nf, cf) _ (regR_set hBF (by first | omega | (simp; done) | (simp; omega)) (by first | omega | (simp; done) | (simp; omega)) (by first | omega | (simp; done) | (simp; omega)) bxc hof) | exact TAIL (wb, gs, Af, nf, cf) _ (regR_set hBF (by first | omega | (simp; done) | (simp; omega)) (by first | omega | (simp; done) | (simp; omega)) (by first | omega | (simp; done) | (simp; omega)) bxc hof) | exact TAIL (wf, gs, Af, nf, cf) _ (regR_new hBF (by first | omega | (simp; done) | (simp; omega)) hof) | exact TAIL (wf, gs, Af, nf, cf) _ (regR_newS hBF (by first | omega | (simp; done) | (simp; omega)) hof rfl)
  rintro ⟨w17, gc_h0, A_h0, n_h0, c_h0⟩ w18 ⟨hb18, cs5_0_18, eb18, ec18, o_h0_18, ne_h0⟩
  dsimp only at hb18 cs5_0_18 eb18 ec18 o_h0_18 ne_h0 ⊢
  (try simp only [List.setIfInBounds_toArray, List.set_cons_zero, List.set_cons_succ])
  have s18 := hb18.size
  replace ne_h0 := Lib.hid ne_h0
  have bw18 : Below w.heap.size w w18 := bcall bw16.size hb18 bw16
  have q18 := bw18.size
  have o_w0_18 := own_later o_w0_16 hb18 (Nat.le_refl _)
  have o_x0_18 := own_later o_x0_16 hb18 (Nat.le_refl _)
  have o_g0_18 := own_later o_g0_16 hb18 (Nat.le_refl _)
  have bc_w0_18 : Below w5.heap.size w5 w18 := bc_w0_16.trans (hb18.mono (by omega))
  have cs0_0_18 := (hb18.cell (p := ⟨w.heap.size, 0, none⟩) (by show w.heap.size < w16.heap.size; omega)).trans cs0_0_16; clear cs0_0_16
  have zs0_18 : w.heap.size < w18.heap.size := by omega
  have cs1_0_18 := (hb18.cell (p := ⟨w1.heap.size, 0, none⟩) (by show w1.heap.size < w16.heap.size; omega)).trans cs1_0_16; clear cs1_0_16
  have cs1_1_18 := (hb18.cell (p := ⟨w1.heap.size, 1, none⟩) (by show w1.heap.size < w16.heap.size; omega)).trans cs1_1_16; clear cs1_1_16
  have cs1_2_18 := (hb18.cell (p := ⟨w1.heap.size, 2, none⟩) (by show w1.heap.size < w16.heap.size; omega)).trans cs1_2_16; clear cs1_2_16
  have zs1_18 : w1.heap.size < w18.heap.size := by omega
  have cs2_0_18 := (hb18.cell (p := ⟨w4.heap.size, 0, none⟩) (by show w4.heap.size < w16.heap.size; omega)).trans cs2_0_16; clear cs2_0_16
  have zs2_18 : w4.heap.size < w18.heap.size := by omega
  have cs3_0_18 := (hb18.cell (p := ⟨w6.heap.size, 0, none⟩) (by show w6.heap.size < w16.heap.size; omega)).trans cs3_0_16; clear cs3_0_16
  have zs3_18 : w6.heap.size < w18.heap.size := by omega
  have cs4_0_18 := (hb18.cell (p := ⟨w8.heap.size, 0, none⟩) (by show w8.heap.size < w16.heap.size; omega)).trans cs4_0_16; clear cs4_0_16
  have zs4_18 : w8.heap.size < w18.heap.size := by omega
  have zs5_18 : w17.heap.size < w18.heap.size := ec18
  have lt_h0 := Lib.hid (fun g (h : (Value.slice A_h0 n_h0 c_h0).ownBlock = some g) => o_h0_18.lt g h)
  have ln_h0 : n_h0 ≤ 100000000 := by have h := o_h0_18.1; rw [length_boxCells] at h; have := length_addR l_aP (x_aC, y_aC, z_aC); omega
  go_wp2_with fail
  refine (eqPuzzle_same _ _ _ _ _ _ _ _ (Rd.of_own o_h0_18) (Rd.of_own o_w0_18) (by omega) (by omega)).mono ?_; rintro e w19 ⟨rfl, hb19⟩; have s19 := hb19.size
  have bw19 : Below w.heap.size w w19 := bcall bw18.size hb19 bw18
  have q19 := bw19.size
  have o_w0_19 := own_later o_w0_18 hb19 (Nat.le_refl _)
  have o_x0_19 := own_later o_x0_18 hb19 (Nat.le_refl _)
  have o_g0_19 := own_later o_g0_18 hb19 (Nat.le_refl _)
  have o_h0_19 := own_later o_h0_18 hb19 (Nat.le_refl _)
  have bc_w0_19 : Below w5.heap.size w5 w19 := bc_w0_18.trans (hb19.mono (by omega))
  have cs0_0_19 := (hb19.cell (p := ⟨w.heap.size, 0, none⟩) (by show w.heap.size < w18.heap.size; omega)).trans cs0_0_18; clear cs0_0_18
  have zs0_19 : w.heap.size < w19.heap.size := by omega
  have cs1_0_19 := (hb19.cell (p := ⟨w1.heap.size, 0, none⟩) (by show w1.heap.size < w18.heap.size; omega)).trans cs1_0_18; clear cs1_0_18
  have cs1_1_19 := (hb19.cell (p := ⟨w1.heap.size, 1, none⟩) (by show w1.heap.size < w18.heap.size; omega)).trans cs1_1_18; clear cs1_1_18
  have cs1_2_19 := (hb19.cell (p := ⟨w1.heap.size, 2, none⟩) (by show w1.heap.size < w18.heap.size; omega)).trans cs1_2_18; clear cs1_2_18
  have zs1_19 : w1.heap.size < w19.heap.size := by omega
  have cs2_0_19 := (hb19.cell (p := ⟨w4.heap.size, 0, none⟩) (by show w4.heap.size < w18.heap.size; omega)).trans cs2_0_18; clear cs2_0_18
  have zs2_19 : w4.heap.size < w19.heap.size := by omega
  have cs3_0_19 := (hb19.cell (p := ⟨w6.heap.size, 0, none⟩) (by show w6.heap.size < w18.heap.size; omega)).trans cs3_0_18; clear cs3_0_18
  have zs3_19 : w6.heap.size < w19.heap.size := by omega
  have cs4_0_19 := (hb19.cell (p := ⟨w8.heap.size, 0, none⟩) (by show w8.heap.size < w18.heap.size; omega)).trans cs4_0_18; clear cs4_0_18
  have zs4_19 : w8.heap.size < w19.heap.size := by omega
  have cs5_0_19 := (hb19.cell (p := ⟨w17.heap.size, 0, none⟩) (by show w17.heap.size < w18.heap.size; omega)).trans cs5_0_18; clear cs5_0_18
  have zs5_19 : w17.heap.size < w19.heap.size := by omega
  go_wp2_with fail
  refine (heldPuzzle_any _ _ _ _ _ (Rd.of_own o_g0_19) (by omega) (by omega) (by omega)).mono ?_; rintro e w20 ⟨rfl, hb20⟩; have s20 := hb20.size
  have bw20 : Below w.heap.size w w20 := bcall bw19.size hb20 bw19
  have q20 := bw20.size
  have o_w0_20 := own_later o_w0_19 hb20 (Nat.le_refl _)
  have o_x0_20 := own_later o_x0_19 hb20 (Nat.le_refl _)
  have o_g0_20 := own_later o_g0_19 hb20 (Nat.le_refl _)
  have o_h0_20 := own_later o_h0_19 hb20 (Nat.le_refl _)
  have bc_w0_20 : Below w5.heap.size w5 w20 := bc_w0_19.trans (hb20.mono (by omega))
  have cs0_0_20 := (hb20.cell (p := ⟨w.heap.size, 0, none⟩) (by show w.heap.size < w19.heap.size; omega)).trans cs0_0_19; clear cs0_0_19
  have zs0_20 : w.heap.size < w20.heap.size := by omega
  have cs1_0_20 := (hb20.cell (p := ⟨w1.heap.size, 0, none⟩) (by show w1.heap.size < w19.heap.size; omega)).trans cs1_0_19; clear cs1_0_19
  have cs1_1_20 := (hb20.cell (p := ⟨w1.heap.size, 1, none⟩) (by show w1.heap.size < w19.heap.size; omega)).trans cs1_1_19; clear cs1_1_19
  have cs1_2_20 := (hb20.cell (p := ⟨w1.heap.size, 2, none⟩) (by show w1.heap.size < w19.heap.size; omega)).trans cs1_2_19; clear cs1_2_19
  have zs1_20 : w1.heap.size < w20.heap.size := by omega
  have cs2_0_20 := (hb20.cell (p := ⟨w4.heap.size, 0, none⟩) (by show w4.heap.size < w19.heap.size; omega)).trans cs2_0_19; clear cs2_0_19
  have zs2_20 : w4.heap.size < w20.heap.size := by omega
  have cs3_0_20 := (hb20.cell (p := ⟨w6.heap.size, 0, none⟩) (by show w6.heap.size < w19.heap.size; omega)).trans cs3_0_19; clear cs3_0_19
  have zs3_20 : w6.heap.size < w20.heap.size := by omega
  have cs4_0_20 := (hb20.cell (p := ⟨w8.heap.size, 0, none⟩) (by show w8.heap.size < w19.heap.size; omega)).trans cs4_0_19; clear cs4_0_19
  have zs4_20 : w8.heap.size < w20.heap.size := by omega
  have cs5_0_20 := (hb20.cell (p := ⟨w17.heap.size, 0, none⟩) (by show w17.heap.size < w19.heap.size; omega)).trans cs5_0_19; clear cs5_0_19
  have zs5_20 : w17.heap.size < w20.heap.size := by omega
  go_wp2
  go_ret
  exact ⟨rfl, bw20⟩

theorem own : ownKnob Try.prog.godebug = none := by kernel_rfl
theorem laidOut : laidOutB Try.prog = true := by kernel_rfl

set_option maxRecDepth 100000 in
theorem lifted (os : Os) (started : os.Started) (H : Type) (enc : TypeId × Value → H) :
    ReturnsInHanded {} Try.checked os 13 .any (Rows.fnExactAddClueSpec.pre6 enc Try.prog Try.f13 Rows.fnExactAddClueRow.domain false) (Rows.fnExactAddClueSpec.post enc Try.prog Try.f13 false true false false) := by
  refine returnsInHanded_of_change (C := Try.checked) own started (by kernel_rfl) Try.func13
    (ChangeSpec.witness6 (enc := enc) (C := Try.checked) false ⟨#[], #[.agg #[.slice none 0 0], .agg #[.int .i64 0, .int .i64 0, .int .i64 0]], []⟩ 8 (by kernel_rfl) (by kernel_rfl) (by kernel_rfl) (by kernel_rfl)) ?_
  intro W base args ds gs before hval0 hW hcnd _
  have hval : ∀ (j : Nat) t v, Try.f13.params[j]? = some t → args[j]? = some v → Value.okWide Try.prog W .any base t v := hval0
  have hW' := hW
  obtain ⟨p, q, hA0, hV, rfl, hfz, hnd⟩ := hW
  have hA : DataW.TrodAll enc Try.prog W 0 (fun _ => true) true Try.f13.params.toList args.toList ds p := hA0
  rw [Try.params13] at hA hval
  obtain ⟨v0, vs0, d0, ds0, p0, q0, hargs, rfl, rfl, h0, r0⟩ := trodAll_cons hA
  obtain ⟨v1, vs1, d1, ds1, p1, q1, rfl, rfl, rfl, h1, r1⟩ := trodAll_cons r0
  obtain ⟨rfl, rfl, rfl⟩ := trodAll_nil r1
  obtain rfl : args = #[v0, v1] := by cases args; simp_all
  obtain ⟨rfl, rfl⟩ := trodVars_none hV
  have k0 := h0
  have lt0 : ∀ x ∈ p0, x.block < W.heap.size := by obtain ⟨m, hm⟩ := k0; exact DataW.trod_lt m _ _ _ hm
  obtain ⟨A0, n0, c0, xs0, rfl, rd0, hl0⟩ := open_puz Try.underlying30 (show Try.prog.cellsOf 30 = 1 by kernel_rfl) rfl rfl (show Try.prog.cellsOf 28 = 1 by kernel_rfl) Try.underlying28 Try.underlying23 (show Try.prog.cellsOf 23 = 3 by kernel_rfl) rfl rfl rfl rfl rfl rfl Try.underlying3 (show Try.prog.cellsOf 3 = 1 by kernel_rfl) (hval 0 30 v0 rfl rfl) h0
  have k1 := h1
  have lt1 : ∀ x ∈ p1, x.block < W.heap.size := by obtain ⟨m, hm⟩ := k1; exact DataW.trod_lt m _ _ _ hm
  obtain ⟨c1_0, c1_1, c1_2, y1_0, y1_1, y1_2, m1, rfl, rfl, rfl, e1_0, e1_1, e1_2⟩ := open_agg3 Try.underlying23 (by kernel_rfl) (show Try.prog.cellsOf 23 = 3 by kernel_rfl) (hval 1 23 v1 rfl rfl) h1
  obtain ⟨a1_0, q1_0, rfl, w1_0⟩ := DataW.trod_int Try.underlying3 e1_0
  obtain ⟨a1_1, q1_1, rfl, w1_1⟩ := DataW.trod_int Try.underlying3 e1_1
  obtain ⟨a1_2, q1_2, rfl, w1_2⟩ := DataW.trod_int Try.underlying3 e1_2
  simp at q1_0 q1_1 q1_2
  subst q1_0 q1_1 q1_2
  clear hA0 hval0
  refine (walk A0 n0 c0 xs0 a1_0 a1_1 a1_2 W rd0 hl0 w1_0 w1_1 w1_2).mono fun e W' ⟨he, bel⟩ => ?_
  subst he
  exact ⟨_, rfl, _, _, _, [], _, [], hW', trodAll_mk1 (shut_bool Try.underlying4 _), (trodAll_cons_mk (Below.trod laidOut (by kernel_rfl) (of_decide_eq_true (by kernel_rfl)) k0 bel lt0) (trodAll_cons_mk (Below.trod laidOut (by kernel_rfl) (of_decide_eq_true (by kernel_rfl)) k1 bel lt1) trodAll_mk0)), rfl, bel.frame _, fun h => by cases h⟩

set_option maxHeartbeats 40000000 in
theorem closedF : joinedFacts Try.prog 13 Try.f13 Rows.fnExactAddClueSpec Rows.fnExactAddClueRow = true := by
  unfold joinedFacts
  repeat' (with_reducible apply and_t)
  all_goals first | (with_reducible exact mayEnterP) | (rw [liftsP]; kernel_rfl) | (rw [makeP]; kernel_rfl) | (as_aux_lemma => kernel_rfl)

theorem proved : Rows.FnExactAddClueSaid :=
  OpenClaim.holds_of_wide 13 Try.f13 rfl rfl rfl rfl rfl rfl rfl ⟨rfl, rfl, rfl, rfl, rfl⟩ rfl rfl rfl rfl rfl (by kernel_rfl) Try.func13 closedF
    (of_decide_eq_true (by kernel_rfl)) (by unfold Func.isWrapper; first | (rw [if_pos (by decide +kernel)]; kernel_rfl) | (rw [if_neg (by decide +kernel)]; exact ⟨rfl, rfl⟩))
    (fun os started H enc _ => lifted os started H enc)

#print axioms proved
end Go.Proofs.Ytghlgmbekgfmnaa.lawAddClue
