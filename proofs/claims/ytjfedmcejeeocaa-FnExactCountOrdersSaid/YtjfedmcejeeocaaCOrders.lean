/-
  Contracts: CountOrders of the program and of the model.
-/
import Derived.Test.YtjfedmcejeeocaaBrCO
import Derived.Test.YtjfedmcejeeocaaCTrees
namespace Go.Proofs.Ytjfedmcejeeocaa
open Go.RowKit Go.Maps
set_option linter.unusedVariables false

/-- the solution of the recurrence -/
def solveO : Nat → Nat → Nat → Int
  | 0, _, _ => 0
  | s + 1, x, y => stepO (solveO s) x y
theorem solve_recO {M : Nat → Nat → Int} {W H : Nat} (hM : RecO M W H) : ∀ (s x y : Nat), x + y ≤ s → 1 ≤ x → x ≤ W → 1 ≤ y → y ≤ H → M x y = solveO s x y
  | 0, x, y, hs, hx, _, _, _ => by omega
  | s + 1, x, y, hs, hx, hxW, hy, hyH => by
    rw [hM x y hx hxW hy hyH]
    exact stepO_congr hx hy (fun a h1 h2 => solve_recO hM s a y (by omega) h1 (by omega) hy hyH) (fun b h1 h2 => solve_recO hM s x b (by omega) hx hxW h1 (by omega))
def ordN (x y : Int) : Int := solveO (x.toNat + y.toNat) x.toNat y.toNat
def orB (x y : Int) : Bool := barB x y && decide (ordN x y ≤ 1000000000000000)
def orI (x y : Int) : Int := if orB x y then ordN x y else 0
abbrev okO (x y : Int) : Value := .tuple #[.int .i64 (orI x y), .bool (orB x y)]
theorem or_no {x y : Int} (h : barB x y = false) : orB x y = false ∧ orI x y = 0 := by
  have e : orB x y = false := by simp [orB, h]
  exact ⟨e, by simp [orI, e]⟩
theorem or_okC {X Y : Nat} {M : Nat → Nat → Int} (hB : barB X Y = true) (h1 : 1 ≤ X) (h2 : 1 ≤ Y) (hM : RecO M X Y) : okO X Y = okC (M X Y) := by
  have e : M X Y = ordN X Y := solve_recO hM (X + Y) X Y (Nat.le_refl _) h1 (Nat.le_refl _) h2 (Nat.le_refl _)
  unfold okC
  rw [e]
  by_cases h : 1000000000000000 < ordN X Y
  · have e1 : orB X Y = false := by simp [orB]; omega
    rw [if_pos h, okO, orI, e1]
    rfl
  · have e1 : orB X Y = true := by simp [orB, hB]; omega
    rw [if_neg h, okO, orI, e1]
    rfl
set_option maxRecDepth 100000 in
set_option maxHeartbeats 1000000 in
theorem countWaysO_any (x y : Int) (w : World) :
    Calls Try.prog 31 #[bar2 x y, .bool true] w fun e w' => e = .returned (okO x y) ∧ Below w.heap.size w w' := by
  cases hB : barB x y
  · rw [okO, (or_no hB).1, (or_no hB).2]
    go_enter Try.func31, Try.ntmps31
    go_wp2_with fail
    refine (isBar_any _ _ _).mono ?_; rintro e w1 ⟨rfl, hb1⟩; have s1 := hb1.size; obtain ⟨hc1, hf1⟩ := bcell hb1; have z1_w0 : w.heap.size < w1.heap.size := (by have q := s1; first | omega | (simp at q; omega))
    go_wp2
    go_ret2
    exact ⟨rfl, by (repeat (first | (with_reducible exact Below.refl _ _) | (with_reducible assumption) | (with_reducible refine Below.drew ?_) | ((with_reducible refine balloc ?_ _ ?_); · (first | (simp; done) | (simp; omega) | omega)) | ((with_reducible refine bset ?_ _ ?_); · (first | (simp; done) | (simp; omega) | omega)) | (with_reducible refine bdrewN _ ?_) | ((with_reducible refine bcall ?_ (by assumption) ?_); · (first | (simp; done) | (simp; omega) | omega))))⟩
  · obtain ⟨X, Y, rfl, rfl, h1, h2, h3, h4⟩ := bar_nat hB
    exact (countWays_yes X Y w h1 h2 h3 h4).mono fun e w' ⟨M, hM, he, hb⟩ => ⟨by rw [he, or_okC hB h1 h3 hM], hb⟩

set_option maxRecDepth 100000 in
set_option maxHeartbeats 1000000 in
theorem countOrders_any (x y : Int) (w : World) :
    Calls Try.prog 18 #[bar2 x y] w fun e w' => e = .returned (okO x y) ∧ Below w.heap.size w w' := by
  go_enter Try.func18, Try.ntmps18
  go_wp2_with fail
  refine (countWaysO_any _ _ _).mono ?_; rintro e w1 ⟨rfl, hb1⟩; have s1 := hb1.size; obtain ⟨hc1, hf1⟩ := bcell hb1; have z1_w0 : w.heap.size < w1.heap.size := (by have q := s1; first | omega | (simp at q; omega))
  go_wp2
  go_ret2
  exact ⟨rfl, by (repeat (first | (with_reducible exact Below.refl _ _) | (with_reducible assumption) | (with_reducible refine Below.drew ?_) | ((with_reducible refine balloc ?_ _ ?_); · (first | (simp; done) | (simp; omega) | omega)) | ((with_reducible refine bset ?_ _ ?_); · (first | (simp; done) | (simp; omega) | omega)) | (with_reducible refine bdrewN _ ?_) | ((with_reducible refine bcall ?_ (by assumption) ?_); · (first | (simp; done) | (simp; omega) | omega))))⟩

set_option maxRecDepth 100000 in
set_option maxHeartbeats 1000000 in
theorem sCountOrders_any (x y : Int) (w : World) :
    Calls Try.prog 17 #[bar2 x y] w fun e w' => e = .returned (okO x y) ∧ Below w.heap.size w w' := by
  cases hB : barB x y
  · rw [okO, (or_no hB).1, (or_no hB).2]
    go_enter Try.func17, Try.ntmps17
    go_wp2_with fail
    refine (brGood_any _ _ _).mono ?_; rintro e w1 ⟨rfl, hb1⟩; have s1 := hb1.size; obtain ⟨hc1, hf1⟩ := bcell hb1; have z1_w0 : w.heap.size < w1.heap.size := (by have q := s1; first | omega | (simp at q; omega))
    go_wp2
    go_ret2
    exact ⟨rfl, by (repeat (first | (with_reducible exact Below.refl _ _) | (with_reducible assumption) | (with_reducible refine Below.drew ?_) | ((with_reducible refine balloc ?_ _ ?_); · (first | (simp; done) | (simp; omega) | omega)) | ((with_reducible refine bset ?_ _ ?_); · (first | (simp; done) | (simp; omega) | omega)) | (with_reducible refine bdrewN _ ?_) | ((with_reducible refine bcall ?_ (by assumption) ?_); · (first | (simp; done) | (simp; omega) | omega))))⟩
  · obtain ⟨X, Y, rfl, rfl, h1, h2, h3, h4⟩ := bar_nat hB
    have HBC := Lib.hid (fun wx => brCounts_yes X Y wx h1 h2 h3 h4)
    have HOK := Lib.hid (fun M hM => or_okC (M := M) hB h1 h3 hM)
    go_enter Try.func17, Try.ntmps17
    go_wp2_with fail
    refine (brGood_any _ _ _).mono ?_; rintro e w1 ⟨rfl, hb1⟩; have s1 := hb1.size; obtain ⟨hc1, hf1⟩ := bcell hb1; have z1_w0 : w.heap.size < w1.heap.size := (by have q := s1; first | omega | (simp at q; omega))
    have c0 : w1.cell? ⟨w.heap.size, 0, none⟩ = some (.int .i64 X) := by rw [hc1 _ _ (by simp)]; simp [go_sem]
    have c1 : w1.cell? ⟨w.heap.size, 1, none⟩ = some (.int .i64 Y) := by rw [hc1 _ _ (by simp)]; simp [go_sem]
    have bw1 : Below w.heap.size w w1 := by (repeat (first | (with_reducible exact Below.refl _ _) | (with_reducible assumption) | (with_reducible refine Below.drew ?_) | ((with_reducible refine balloc ?_ _ ?_); · (first | (simp; done) | (simp; omega) | omega)) | ((with_reducible refine bset ?_ _ ?_); · (first | (simp; done) | (simp; omega) | omega)) | (with_reducible refine bdrewN _ ?_) | ((with_reducible refine bcall ?_ (by assumption) ?_); · (first | (simp; done) | (simp; omega) | omega))))
    go_wp2_with fail
    refine (HBC.out _).mono ?_; rintro e w2 ⟨M, hM, rfl, hb2⟩
    have hfin := bcall bw1.size hb2 bw1
    have hk := HOK.out M hM
    generalize M X Y = v at *
    by_cases hgt : 1000000000000000 < v
    · have hgt' : decide ((1000000000000000 : Int) < v) = true := decide_eq_true hgt
      have he : okO X Y = .tuple #[.int .i64 0, .bool false] := hk.trans (if_pos hgt)
      have HE := Lib.hid he
      clear hk he
      go_wp2
      go_ret2
      exact ⟨by rw [HE.out]; rfl, hfin⟩
    · have hgt' : decide ((1000000000000000 : Int) < v) = false := decide_eq_false hgt
      have he : okO X Y = .tuple #[.int .i64 v, .bool true] := hk.trans (if_neg hgt)
      have HE := Lib.hid he
      clear hk he
      go_wp2
      go_ret2
      exact ⟨by rw [HE.out]; rfl, hfin⟩

end Go.Proofs.Ytjfedmcejeeocaa
