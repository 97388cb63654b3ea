/-
  Contract: the fewest pieces of a part that is broken, of the program.
-/
import Derived.Test.YtfbmnaepobhnkaaBrkS
import Derived.Test.YtfbmnaepobhnkaaMapQ
import Derived.Test.YtfbmnaepobhnkaaReg
namespace Go.Proofs.Ytfbmnaepobhnkaa
open Go.RowKit
set_option linter.unusedVariables false

set_option maxRecDepth 100000 in
set_option maxHeartbeats 4000000 in
theorem fewestBroken_any (x y a b mb nn : Nat) (M : Nat → Nat → Nat → Nat → Int) (g : G4) (w : World) (ha : 1 ≤ a) (hb : 1 ≤ b) (hx : x + a ≤ 8) (hy : y + b ≤ 8) (hM : MapQ w mb nn M)
    (hg : ∀ x' y' a' b', SubP x y a b x' y' a' b' → M x' y' a' b' = (g x' y' a' b' : Nat)) (hg64 : ∀ x' y' a' b', SubP x y a b x' y' a' b' → g x' y' a' b' ≤ 64) :
    Calls Try.prog 43 #[part4 x y a b, .map (some mb)] w fun e w' => e = .returned (.int .i64 (brokenF g x y a b : Nat)) ∧ Below w.heap.size w w' := by
  have hab2 : a * b ≤ 8 * 8 := Nat.mul_le_mul (by omega) (by omega)
  have hp : wrap64 ((a : Int) * (b : Int)) = ((a * b : Nat) : Int) := by
    rw [← Int.natCast_mul]
    generalize a * b = m at *
    exact IntWalk.wrap64_in _ (by omega)
  have HG := Lib.hid hg
  have HG64 := Lib.hid hg64
  have HM := Lib.hid hM
  have hmb := hM.lt
  clear hg hg64 hM
  have bw0 : Below w.heap.size w (w.alloc (.cells #[.int .i64 x, .int .i64 y, .int .i64 a, .int .i64 b] 70)) := by (repeat (first | (with_reducible exact Below.refl _ _) | (with_reducible assumption) | (with_reducible refine Below.drew ?_) | ((with_reducible refine balloc ?_ _ ?_); · (first | (simp; done) | (simp; omega) | omega)) | ((with_reducible refine bset ?_ _ ?_); · (first | (simp; done) | (simp; omega) | omega)) | (with_reducible refine bdrewN _ ?_) | ((with_reducible refine bcall ?_ (by assumption) ?_); · (first | (simp; done) | (simp; omega) | omega))))
  have BW0 := Lib.hid bw0
  clear bw0
  go_enter Try.func43, Try.ntmps43
  go_wp2_with fail
  refine (breaksOfPart_any x y a b _ ha (by omega) hb (by omega) (by omega) (by omega)).mono ?_; rintro e w2 ⟨A2, N, c2, rfl, own2, hb2⟩
  have s2 := hb2.size
  have bw2 := bcall (by simp) hb2 BW0.out
  have hN : N = (a - 1) + (b - 1) := by have := own2.1; rw [length_octCells, length_brkL] at this; omega
  have HN := Lib.hid hN
  have hN16 : N ≤ 16 := by omega
  have RD2 := Lib.hid (Rd.of_own own2)
  have M2 := Lib.hid (HM.out.below bw2 hmb)
  have BW2 := Lib.hid bw2
  have hmb2 : mb < w2.heap.size := by simp at s2; omega
  have hws : w.heap.size ≤ w2.heap.size := by simp at s2; omega
  clear hN own2 hb2 bw2 s2
  go_wp2
  go_loopw [5, 18] (fun v i wr => ∃ k : Nat, k ≤ N ∧ i = .int .i64 k ∧ v = .int .i64 (brokenK g x y a b k : Nat) ∧ Below w2.heap.size w2 wr) (fun _ i _ => N - (intOf i).toNat)
  case atStart => exact ⟨0, Nat.zero_le _, rfl, by simp [brokenK, downF], Below.refl _ _⟩
  case round =>
    obtain ⟨k, hk, rfl, rfl, hB⟩ := hrel
    have hbk := brokenK_le (g := g) (x := x) (y := y) (a := a) (b := b) k (by have := HN.out; omega)
    by_cases hlt : k < N
    · obtain ⟨bb, o, rfl, hbl, hkx, p0, p1, p2, p3, p4, p5, p6, p7⟩ := (RD2.out.later hB (Nat.le_refl _)).oct hlt
      obtain ⟨x1, y1, a1, b1, x2, y2, a2, b2, hq, h1, h2, hst, _⟩ := brk_step [] x y a b k ha hb hkx
      rw [hq] at p0 p1 p2 p3 p4 p5 p6 p7
      have HST := Lib.hid (hst g)
      have hM1 := HG.out _ _ _ _ h1
      have hM2 := HG.out _ _ _ _ h2
      have g1 := HG64.out _ _ _ _ h1
      have g2 := HG64.out _ _ _ _ h2
      obtain ⟨h11, h12, h13, h14, h15, h16, h17⟩ := h1
      obtain ⟨h21, h22, h23, h24, h25, h26, h27⟩ := h2
      have hMA := (M2.out.below hB hmb2).alloc (.cells #[.int .i64 x1, .int .i64 y1, .int .i64 a1, .int .i64 b1, .int .i64 x2, .int .i64 y2, .int .i64 a2, .int .i64 b2] 90)
      have k1 := hMA.look (x := x1) (y := y1) (p := a1) (q := b1) (by omega) (by omega) (by omega) (by omega)
      have k2 := hMA.look (x := x2) (y := y2) (p := a2) (q := b2) (by omega) (by omega) (by omega) (by omega)
      have k1d := hMA.drew.look (x := x1) (y := y1) (p := a1) (q := b1) (by omega) (by omega) (by omega) (by omega)
      have k2d := hMA.drew.look (x := x2) (y := y2) (p := a2) (q := b2) (by omega) (by omega) (by omega) (by omega)
      rw [hM1] at k1 k1d
      rw [hM2] at k2 k2d
      have BLA := Lib.hid (hB.alloc hB.size (.cells #[.int .i64 x1, .int .i64 y1, .int .i64 a1, .int .i64 b1, .int .i64 x2, .int .i64 y2, .int .i64 a2, .int .i64 b2] 90))
      clear hB hq hst hM1 hM2 hMA h17 h27
      generalize brokenK g x y a b k = d at *
      generalize g x1 y1 a1 b1 = f1 at *
      generalize g x2 y2 a2 b2 = f2 at *
      have d0 : (wr.alloc (.cells #[.int .i64 x1, .int .i64 y1, .int .i64 a1, .int .i64 b1, .int .i64 x2, .int .i64 y2, .int .i64 a2, .int .i64 b2] 90)).cell? ⟨wr.heap.size, 0, none⟩ = some (.int .i64 x1) := by simp [go_sem]
      have d1 : (wr.alloc (.cells #[.int .i64 x1, .int .i64 y1, .int .i64 a1, .int .i64 b1, .int .i64 x2, .int .i64 y2, .int .i64 a2, .int .i64 b2] 90)).cell? ⟨wr.heap.size, 1, none⟩ = some (.int .i64 y1) := by simp [go_sem]
      have d2 : (wr.alloc (.cells #[.int .i64 x1, .int .i64 y1, .int .i64 a1, .int .i64 b1, .int .i64 x2, .int .i64 y2, .int .i64 a2, .int .i64 b2] 90)).cell? ⟨wr.heap.size, 2, none⟩ = some (.int .i64 a1) := by simp [go_sem]
      have d3 : (wr.alloc (.cells #[.int .i64 x1, .int .i64 y1, .int .i64 a1, .int .i64 b1, .int .i64 x2, .int .i64 y2, .int .i64 a2, .int .i64 b2] 90)).cell? ⟨wr.heap.size, 3, none⟩ = some (.int .i64 b1) := by simp [go_sem]
      have d4 : (wr.alloc (.cells #[.int .i64 x1, .int .i64 y1, .int .i64 a1, .int .i64 b1, .int .i64 x2, .int .i64 y2, .int .i64 a2, .int .i64 b2] 90)).cell? ⟨wr.heap.size, 4, none⟩ = some (.int .i64 x2) := by simp [go_sem]
      have d5 : (wr.alloc (.cells #[.int .i64 x1, .int .i64 y1, .int .i64 a1, .int .i64 b1, .int .i64 x2, .int .i64 y2, .int .i64 a2, .int .i64 b2] 90)).cell? ⟨wr.heap.size, 5, none⟩ = some (.int .i64 y2) := by simp [go_sem]
      have d6 : (wr.alloc (.cells #[.int .i64 x1, .int .i64 y1, .int .i64 a1, .int .i64 b1, .int .i64 x2, .int .i64 y2, .int .i64 a2, .int .i64 b2] 90)).cell? ⟨wr.heap.size, 6, none⟩ = some (.int .i64 a2) := by simp [go_sem]
      have d7 : (wr.alloc (.cells #[.int .i64 x1, .int .i64 y1, .int .i64 a1, .int .i64 b1, .int .i64 x2, .int .i64 y2, .int .i64 a2, .int .i64 b2] 90)).cell? ⟨wr.heap.size, 7, none⟩ = some (.int .i64 b2) := by simp [go_sem]
      have wsum : IntKind.i64.wrap ((f1 : Int) + (f2 : Int)) = (f1 : Int) + (f2 : Int) := IntWalk.i64_in _ (by omega)
      clear h11 h12 h13 h14 h15 h16 h21 h22 h23 h24 h25 h26 g1 g2
      go_wp2
      clear p0 p1 p2 p3 p4 p5 p6 p7
      refine wp_region_held_drew (S := (fun w' => w'.cell? ⟨wr.heap.size, 0, none⟩ = some (.int .i64 x1) ∧ w'.cell? ⟨wr.heap.size, 1, none⟩ = some (.int .i64 y1) ∧ w'.cell? ⟨wr.heap.size, 2, none⟩ = some (.int .i64 a1) ∧ w'.cell? ⟨wr.heap.size, 3, none⟩ = some (.int .i64 b1) ∧ w'.cell? ⟨wr.heap.size, 4, none⟩ = some (.int .i64 x2) ∧ w'.cell? ⟨wr.heap.size, 5, none⟩ = some (.int .i64 y2) ∧ w'.cell? ⟨wr.heap.size, 6, none⟩ = some (.int .i64 a2) ∧ w'.cell? ⟨wr.heap.size, 7, none⟩ = some (.int .i64 b2) ∧ (Instr.lookup 76 (.map (some mb)) (part4 x1 y1 a1 b1) false).run Try.prog w' = .ok (.int .i64 (f1 : Nat)) w' ∧ (Instr.lookup 76 (.map (some mb)) (part4 x2 y2 a2 b2) false).run Try.prog w' = .ok (.int .i64 (f2 : Nat)) w')) (by kernel_rfl) ?_ (fun hHeld => ?_)
      · ((try dsimp only); (repeat' apply And.intro); all_goals ((repeat (first | (with_reducible refine cell_drew ?_) | (with_reducible refine cell_drewN _ ?_) | ((with_reducible refine cell_alloc ?_ ?_); · first | omega | (simp; done) | (simp; omega) | assumption) | ((with_reducible refine cell_set ?_ ?_); · first | (intro e; injection e; omega) | (intro e; simp at e; done) | (intro e; simp at e; omega)))); first | assumption | (simp; done)))
      refine reg_on (i := 0) (d := 22) (v := ?rv1) rfl rfl (by kernel_rfl) (by kernel_rfl) (by kernel_rfl) (fun _ _ _ h => h) (by rfl) ?ry1 (by assumption) ?rr1
      case ry1 => (intro wz hSw; (try dsimp only at hSw); go_simp; try with_reducible rfl)
      (try simp only [Act.put, List.setIfInBounds_toArray, List.set_cons_zero, List.set_cons_succ])
      refine reg_on (i := 1) (d := 23) (v := ?rv2) rfl rfl (by kernel_rfl) (by kernel_rfl) (by kernel_rfl) (fun _ _ _ h => h) (by rfl) ?ry2 (by assumption) ?rr2
      case ry2 => (intro wz hSw; (try dsimp only at hSw); go_simp; try with_reducible rfl)
      (try simp only [Act.put, List.setIfInBounds_toArray, List.set_cons_zero, List.set_cons_succ])
      refine reg_on (i := 2) (d := 24) (v := ?rv3) rfl rfl (by kernel_rfl) (by kernel_rfl) (by kernel_rfl) (fun _ _ _ h => h) (by rfl) ?ry3 (by assumption) ?rr3
      case ry3 => (intro wz hSw; (try dsimp only at hSw); go_simp; try with_reducible rfl)
      (try simp only [Act.put, List.setIfInBounds_toArray, List.set_cons_zero, List.set_cons_succ])
      refine reg_on (i := 3) (d := 25) (v := ?rv4) rfl rfl (by kernel_rfl) (by kernel_rfl) (by kernel_rfl) (fun _ _ _ h => h) (by rfl) ?ry4 (by assumption) ?rr4
      case ry4 => (intro wz hSw; (try dsimp only at hSw); go_simp; try with_reducible rfl)
      (try simp only [Act.put, List.setIfInBounds_toArray, List.set_cons_zero, List.set_cons_succ])
      refine reg_on (i := 4) (d := 26) (v := ?rv5) rfl rfl (by kernel_rfl) (by kernel_rfl) (by kernel_rfl) (fun _ _ _ h => h) (by rfl) ?ry5 (by assumption) ?rr5
      case ry5 => (intro wz hSw; (try dsimp only at hSw); go_simp; try with_reducible rfl)
      (try simp only [Act.put, List.setIfInBounds_toArray, List.set_cons_zero, List.set_cons_succ])
      refine reg_on (i := 5) (d := 27) (v := ?rv6) rfl rfl (by kernel_rfl) (by kernel_rfl) (by kernel_rfl) (fun _ _ _ h => h) (by rfl) ?ry6 (by assumption) ?rr6
      case ry6 => (intro wz hSw; (try dsimp only at hSw); go_simp; try with_reducible rfl)
      (try simp only [Act.put, List.setIfInBounds_toArray, List.set_cons_zero, List.set_cons_succ])
      refine reg_on (i := 6) (d := 28) (v := ?rv7) rfl rfl (by kernel_rfl) (by kernel_rfl) (by kernel_rfl) (fun _ _ _ h => h) (by rfl) ?ry7 (by assumption) ?rr7
      case ry7 => (intro wz hSw; (try dsimp only at hSw); go_simp; try with_reducible rfl)
      (try simp only [Act.put, List.setIfInBounds_toArray, List.set_cons_zero, List.set_cons_succ])
      refine reg_on (i := 7) (d := 29) (v := ?rv8) rfl rfl (by kernel_rfl) (by kernel_rfl) (by kernel_rfl) (fun _ _ _ h => h) (by rfl) ?ry8 (by assumption) ?rr8
      case ry8 => (intro wz hSw; (try dsimp only at hSw); go_simp; try with_reducible rfl)
      (try simp only [Act.put, List.setIfInBounds_toArray, List.set_cons_zero, List.set_cons_succ])
      refine reg_on (i := 8) (d := 30) (v := ?rv9) rfl rfl (by kernel_rfl) (by kernel_rfl) (by kernel_rfl) (fun _ _ _ h => h) (by rfl) ?ry9 (by assumption) ?rr9
      case ry9 => (intro wz hSw; (try dsimp only at hSw); go_simp; try with_reducible rfl)
      (try simp only [Act.put, List.setIfInBounds_toArray, List.set_cons_zero, List.set_cons_succ])
      refine reg_on (i := 9) (d := 31) (v := ?rv10) rfl rfl (by kernel_rfl) (by kernel_rfl) (by kernel_rfl) (fun _ _ _ h => h) (by rfl) ?ry10 (by assumption) ?rr10
      case ry10 => (intro wz hSw; (try dsimp only at hSw); go_simp; try with_reducible rfl)
      (try simp only [Act.put, List.setIfInBounds_toArray, List.set_cons_zero, List.set_cons_succ])
      refine reg_on (i := 10) (d := 32) (v := ?rv11) rfl rfl (by kernel_rfl) (by kernel_rfl) (by kernel_rfl) (fun _ _ _ h => h) (by rfl) ?ry11 (by assumption) ?rr11
      case ry11 => (intro wz hSw; (try dsimp only at hSw); go_simp; try with_reducible rfl)
      (try simp only [Act.put, List.setIfInBounds_toArray, List.set_cons_zero, List.set_cons_succ])
      refine reg_on (i := 11) (d := 5) (v := ?rv12) rfl rfl (by kernel_rfl) (by kernel_rfl) (by kernel_rfl) (fun _ _ _ h => h) (by rfl) ?ry12 (by assumption) ?rr12
      case ry12 => (intro wz hSw; (try dsimp only at hSw); go_simp; try with_reducible rfl)
      (try simp only [Act.put, List.setIfInBounds_toArray, List.set_cons_zero, List.set_cons_succ])
      refine wpAnyH_done (by kernel_rfl) ?_ _
      have BLD := Lib.hid BLA.out.drew
      clear BLA d0 d1 d2 d3 d4 d5 d6 d7 k1 k2 k1d k2d
      go_wp2
      go_roundw
      case rel => exact ⟨k + 1, by omega, by go_num, by show Value.int _ _ = Value.int _ _; congr 1; rw [HST.out]; omega, BLD.out⟩
      case measure => simp [intOf]; omega
    · have e : k = N := by omega
      have e2 : brokenK g x y a b k = brokenF g x y a b := by rw [e, HN.out, brokenK_all]
      rw [e2]
      have HB := Lib.hid hB
      have HE := Lib.hid e
      have hNk : ¬ (k : Int) < (N : Int) := by omega
      clear hB e e2
      go_wp2
      go_ret
      exact ⟨rfl, BW2.out.trans (HB.out.mono hws)⟩

end Go.Proofs.Ytfbmnaepobhnkaa
