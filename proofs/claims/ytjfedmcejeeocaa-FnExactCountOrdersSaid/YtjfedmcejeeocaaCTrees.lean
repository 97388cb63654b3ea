/-
  Contracts: CountTrees of the program and of the model.
-/
import Derived.Test.YtjfedmcejeeocaaBrC
namespace Go.Proofs.Ytjfedmcejeeocaa
open Go.RowKit Go.Maps
set_option linter.unusedVariables false

/-- the solution of the recurrence -/
def solveT : Nat → Nat → Nat → Int
  | 0, _, _ => 0
  | s + 1, x, y => stepV (solveT s) x y
theorem solve_rec {M : Nat → Nat → Int} {W H : Nat} (hM : Rec M W H) : ∀ (s x y : Nat), x + y ≤ s → 1 ≤ x → x ≤ W → 1 ≤ y → y ≤ H → M x y = solveT s x y
  | 0, x, y, hs, hx, _, _, _ => by omega
  | s + 1, x, y, hs, hx, hxW, hy, hyH => by
    rw [hM x y hx hxW hy hyH]
    exact stepV_congr hx hy (fun a h1 h2 => solve_rec hM s a y (by omega) h1 (by omega) hy hyH) (fun b h1 h2 => solve_rec hM s x b (by omega) hx hxW h1 (by omega))
def treeN (x y : Int) : Int := solveT (x.toNat + y.toNat) x.toNat y.toNat
def trB (x y : Int) : Bool := barB x y && decide (treeN x y ≤ 1000000000000000)
def trI (x y : Int) : Int := if trB x y then treeN x y else 0
abbrev okT (x y : Int) : Value := .tuple #[.int .i64 (trI x y), .bool (trB x y)]
theorem tr_no {x y : Int} (h : barB x y = false) : trB x y = false ∧ trI x y = 0 := by
  have e : trB x y = false := by simp [trB, h]
  exact ⟨e, by simp [trI, e]⟩
theorem tr_okC {X Y : Nat} {M : Nat → Nat → Int} (hB : barB X Y = true) (h1 : 1 ≤ X) (h2 : 1 ≤ Y) (hM : Rec M X Y) : okT X Y = okC (M X Y) := by
  have e : M X Y = treeN X Y := solve_rec hM (X + Y) X Y (Nat.le_refl _) h1 (Nat.le_refl _) h2 (Nat.le_refl _)
  unfold okC
  rw [e]
  by_cases h : 1000000000000000 < treeN X Y
  · have e1 : trB X Y = false := by simp [trB]; omega
    rw [if_pos h, okT, trI, e1]
    rfl
  · have e1 : trB X Y = true := by simp [trB, hB]; omega
    rw [if_neg h, okT, trI, e1]
    rfl
theorem bar_nat {x y : Int} (hB : barB x y = true) : ∃ X Y : Nat, x = X ∧ y = Y ∧ 1 ≤ X ∧ X ≤ 12 ∧ 1 ≤ Y ∧ Y ≤ 12 := by
  obtain ⟨a, b, c, d⟩ := barB_true hB
  obtain ⟨X, rfl⟩ := Int.eq_ofNat_of_zero_le (show 0 ≤ x by omega)
  obtain ⟨Y, rfl⟩ := Int.eq_ofNat_of_zero_le (show 0 ≤ y by omega)
  exact ⟨X, Y, rfl, rfl, by omega, by omega, by omega, by omega⟩

set_option maxRecDepth 100000 in
set_option maxHeartbeats 1000000 in
theorem countWays_any (x y : Int) (w : World) :
    Calls Try.prog 31 #[bar2 x y, .bool false] w fun e w' => e = .returned (okT x y) ∧ Below w.heap.size w w' := by
  cases hB : barB x y
  · rw [okT, (tr_no hB).1, (tr_no hB).2]
    go_enter Try.func31, Try.ntmps31
    go_wp2_with fail
    refine (isBar_any _ _ _).mono ?_; rintro e w1 ⟨rfl, hb1⟩; have s1 := hb1.size; obtain ⟨hc1, hf1⟩ := bcell hb1; have z1_w0 : w.heap.size < w1.heap.size := (by have q := s1; first | omega | (simp at q; omega))
    go_wp2
    go_ret2
    exact ⟨rfl, by (repeat (first | (with_reducible exact Below.refl _ _) | (with_reducible assumption) | (with_reducible refine Below.drew ?_) | ((with_reducible refine balloc ?_ _ ?_); · (first | (simp; done) | (simp; omega) | omega)) | ((with_reducible refine bset ?_ _ ?_); · (first | (simp; done) | (simp; omega) | omega)) | (with_reducible refine bdrewN _ ?_) | ((with_reducible refine bcall ?_ (by assumption) ?_); · (first | (simp; done) | (simp; omega) | omega))))⟩
  · obtain ⟨X, Y, rfl, rfl, h1, h2, h3, h4⟩ := bar_nat hB
    exact (countWays_no X Y w h1 h2 h3 h4).mono fun e w' ⟨M, hM, he, hb⟩ => ⟨by rw [he, tr_okC hB h1 h3 hM], hb⟩

set_option maxRecDepth 100000 in
set_option maxHeartbeats 1000000 in
theorem countTrees_any (x y : Int) (w : World) :
    Calls Try.prog 16 #[bar2 x y] w fun e w' => e = .returned (okT x y) ∧ Below w.heap.size w w' := by
  go_enter Try.func16, Try.ntmps16
  go_wp2_with fail
  refine (countWays_any _ _ _).mono ?_; rintro e w1 ⟨rfl, hb1⟩; have s1 := hb1.size; obtain ⟨hc1, hf1⟩ := bcell hb1; have z1_w0 : w.heap.size < w1.heap.size := (by have q := s1; first | omega | (simp at q; omega))
  go_wp2
  go_ret2
  exact ⟨rfl, by (repeat (first | (with_reducible exact Below.refl _ _) | (with_reducible assumption) | (with_reducible refine Below.drew ?_) | ((with_reducible refine balloc ?_ _ ?_); · (first | (simp; done) | (simp; omega) | omega)) | ((with_reducible refine bset ?_ _ ?_); · (first | (simp; done) | (simp; omega) | omega)) | (with_reducible refine bdrewN _ ?_) | ((with_reducible refine bcall ?_ (by assumption) ?_); · (first | (simp; done) | (simp; omega) | omega))))⟩

set_option maxRecDepth 100000 in
set_option maxHeartbeats 1000000 in
theorem sCountTrees_any (x y : Int) (w : World) :
    Calls Try.prog 15 #[bar2 x y] w fun e w' => e = .returned (okT x y) ∧ Below w.heap.size w w' := by
  cases hB : barB x y
  · rw [okT, (tr_no hB).1, (tr_no hB).2]
    go_enter Try.func15, Try.ntmps15
    go_wp2_with fail
    refine (brGood_any _ _ _).mono ?_; rintro e w1 ⟨rfl, hb1⟩; have s1 := hb1.size; obtain ⟨hc1, hf1⟩ := bcell hb1; have z1_w0 : w.heap.size < w1.heap.size := (by have q := s1; first | omega | (simp at q; omega))
    go_wp2
    go_ret2
    exact ⟨rfl, by (repeat (first | (with_reducible exact Below.refl _ _) | (with_reducible assumption) | (with_reducible refine Below.drew ?_) | ((with_reducible refine balloc ?_ _ ?_); · (first | (simp; done) | (simp; omega) | omega)) | ((with_reducible refine bset ?_ _ ?_); · (first | (simp; done) | (simp; omega) | omega)) | (with_reducible refine bdrewN _ ?_) | ((with_reducible refine bcall ?_ (by assumption) ?_); · (first | (simp; done) | (simp; omega) | omega))))⟩
  · obtain ⟨X, Y, rfl, rfl, h1, h2, h3, h4⟩ := bar_nat hB
    have HBC := Lib.hid (fun wx => brCounts_no X Y wx h1 h2 h3 h4)
    have HOK := Lib.hid (fun M hM => tr_okC (M := M) hB h1 h3 hM)
    go_enter Try.func15, Try.ntmps15
    go_wp2_with fail
    refine (brGood_any _ _ _).mono ?_; rintro e w1 ⟨rfl, hb1⟩; have s1 := hb1.size; obtain ⟨hc1, hf1⟩ := bcell hb1; have z1_w0 : w.heap.size < w1.heap.size := (by have q := s1; first | omega | (simp at q; omega))
    have c0 : w1.cell? ⟨w.heap.size, 0, none⟩ = some (.int .i64 X) := by rw [hc1 _ _ (by simp)]; simp [go_sem]
    have c1 : w1.cell? ⟨w.heap.size, 1, none⟩ = some (.int .i64 Y) := by rw [hc1 _ _ (by simp)]; simp [go_sem]
    have bw1 : Below w.heap.size w w1 := by (repeat (first | (with_reducible exact Below.refl _ _) | (with_reducible assumption) | (with_reducible refine Below.drew ?_) | ((with_reducible refine balloc ?_ _ ?_); · (first | (simp; done) | (simp; omega) | omega)) | ((with_reducible refine bset ?_ _ ?_); · (first | (simp; done) | (simp; omega) | omega)) | (with_reducible refine bdrewN _ ?_) | ((with_reducible refine bcall ?_ (by assumption) ?_); · (first | (simp; done) | (simp; omega) | omega))))
    go_wp2_with fail
    refine (HBC.out _).mono ?_; rintro e w2 ⟨M, hM, rfl, hb2⟩
    have hfin := bcall bw1.size hb2 bw1
    have hk := HOK.out M hM
    generalize M X Y = v at *
    by_cases hgt : 1000000000000000 < v
    · have hgt' : decide ((1000000000000000 : Int) < v) = true := decide_eq_true hgt
      have he : okT X Y = .tuple #[.int .i64 0, .bool false] := hk.trans (if_pos hgt)
      have HE := Lib.hid he
      clear hk he
      go_wp2
      go_ret2
      exact ⟨by rw [HE.out]; rfl, hfin⟩
    · have hgt' : decide ((1000000000000000 : Int) < v) = false := decide_eq_false hgt
      have he : okT X Y = .tuple #[.int .i64 v, .bool true] := hk.trans (if_neg hgt)
      have HE := Lib.hid he
      clear hk he
      go_wp2
      go_ret2
      exact ⟨by rw [HE.out]; rfl, hfin⟩

end Go.Proofs.Ytjfedmcejeeocaa
