/-
  Contracts: hidden chomps (hiddenOf, pzHidden); DoesFit of the program and of the model. Conditions: none.
-/
import Derived.Test.YtghlgmbekgfmnaaPzF
import Derived.Test.YtghlgmbekgfmnaaPzC
import Derived.Test.YtghlgmbekgfmnaaPzM
import Derived.Test.YtghlgmbekgfmnaaPzA
import Derived.Test.YtghlgmbekgfmnaaPzP
namespace Go.Proofs.Ytghlgmbekgfmnaa
open Go.RowKit Go.Maps
set_option linter.unusedVariables false
set_option linter.unusedSimpArgs false

def hidF (l : List Int) : Nat → Int := if hidB l then fl l else fun _ => 0
theorem hidF_no {l : List Int} (h : hidB l = false) : hidF l = fun _ => 0 := by simp [hidF, h]
theorem hidF_yes {l : List Int} (h : hidB l = true) : hidF l = fl l := by simp [hidF, h]

set_option maxRecDepth 100000 in
set_option maxHeartbeats 4000000 in
theorem hiddenOf_any (A : Option Addr) (n c : Nat) (l : List Int) (w : World) (hr : Rd w 1 A n (intCells l)) (hn : n ≤ 1000000000) :
    Calls Try.prog 70 #[.slice A n c] w fun e w' => e = .returned (.tuple #[arrF (hidF l), .bool (hidB l)]) ∧ Below w.heap.size w w' := by
  have HC := Lib.hid (fun wx h => chompOf_any A n c l wx h hn)
  have hll := hr.ilen
  cases hb : chB l
  · have e1 : hidB l = false := by simp [hidB, hb]
    rw [hidF_no e1, e1]
    have HB := Lib.hid hb
    have HPN := Lib.hid (padC_no hb)
    clear hb e1
    go_enter Try.func70, Try.ntmps70
    go_wp2_with fail
    refine (HC.out _ (hr.later (B := w.heap.size) (by (repeat (first | (with_reducible exact Below.refl _ _) | (with_reducible assumption) | (with_reducible refine Below.drew ?_) | ((with_reducible refine balloc ?_ _ ?_); · (first | (simp; done) | (simp; omega) | omega)) | ((with_reducible refine bset ?_ _ ?_); · (first | (simp; done) | (simp; omega) | omega)) | (with_reducible refine bdrewN _ ?_) | ((with_reducible refine bcall ?_ (by assumption) ?_); · (first | (simp; done) | (simp; omega) | omega))))) (Nat.le_refl _))).mono ?_; rintro e w1 ⟨rfl, hb1⟩
    rw [HB.out, HPN.out]
    have s1 := hb1.size
    simp at s1
    obtain ⟨hc1, hf1⟩ := bcell hb1
    have z0 : w.heap.size < w1.heap.size := by omega
    go_wp2
    refine bodyPost_ret (v := .tuple #[arrF (fun _ => 0), .bool false]) (by simp [results, Try.results70, go_sem, hc1, z0]) rfl ⟨rfl, ?_⟩
    (repeat (first | (with_reducible exact Below.refl _ _) | (with_reducible assumption) | (with_reducible refine Below.drew ?_) | ((with_reducible refine balloc ?_ _ ?_); · (first | (simp; done) | (simp; omega) | omega)) | ((with_reducible refine bset ?_ _ ?_); · (first | (simp; done) | (simp; omega) | omega)) | (with_reducible refine bdrewN _ ?_) | ((with_reducible refine bcall ?_ (by assumption) ?_); · (first | (simp; done) | (simp; omega) | omega))))
  · have hl := chB_true.1 hb
    have n1 : 0 < n := by have := hl.1; omega
    obtain ⟨b, o, rfl, hbl, hx, p0⟩ := hr.num n1
    rw [Nat.add_zero] at p0
    have hg0 : l.getD 0 0 = l[0] := by simp [List.getD, hx]
    have hhb : hidB l = (decide (l.length ≤ 4) && decide (l.getD 0 0 ≤ 5)) := by simp [hidB, hb]
    rw [hll, hg0] at hhb
    have HPD : Hid (padC l = fl l) := funext fun j => padC_at hb j
    have HB := Lib.hid hb
    have HHF : Hid (hidF l = if hidB l then fl l else fun _ => 0) := rfl
    generalize l[0] = z at *
    obtain ⟨f, hf⟩ : ∃ f, f = fl l := ⟨_, rfl⟩
    have HF := Lib.hid hf
    by_cases h5 : 5 < z
    · have e1 : hidB l = false := by rw [hhb]; simp; omega
      rw [hidF_no e1, e1]
      have hd : decide (5 < z) = true := decide_eq_true h5
      clear hb hx hg0 hhb hf e1 hll
      go_enter Try.func70, Try.ntmps70
      go_wp2_with fail
      refine (HC.out _ (hr.later (B := w.heap.size) (by (repeat (first | (with_reducible exact Below.refl _ _) | (with_reducible assumption) | (with_reducible refine Below.drew ?_) | ((with_reducible refine balloc ?_ _ ?_); · (first | (simp; done) | (simp; omega) | omega)) | ((with_reducible refine bset ?_ _ ?_); · (first | (simp; done) | (simp; omega) | omega)) | (with_reducible refine bdrewN _ ?_) | ((with_reducible refine bcall ?_ (by assumption) ?_); · (first | (simp; done) | (simp; omega) | omega))))) (Nat.le_refl _))).mono ?_; rintro e w1 ⟨rfl, hb1⟩
      rw [HB.out, HPD.out, ← HF.out]
      have p1 := (hb1.cell (p := ⟨b, o, none⟩) (by simp; omega)).trans ((World.cell?_alloc_lt _ _ ⟨b, o, none⟩ hbl).trans p0)
      have s1 := hb1.size
      simp at s1
      obtain ⟨hc1, hf1⟩ := bcell hb1
      have z0 : w.heap.size < w1.heap.size := by omega
      have zb : b < w1.heap.size := by omega
      go_wp2
      refine bodyPost_ret (v := .tuple #[arrF (fun _ => 0), .bool false]) (by simp [results, Try.results70, go_sem, hc1, z0]) rfl ⟨rfl, ?_⟩
      (repeat (first | (with_reducible exact Below.refl _ _) | (with_reducible assumption) | (with_reducible refine Below.drew ?_) | ((with_reducible refine balloc ?_ _ ?_); · (first | (simp; done) | (simp; omega) | omega)) | ((with_reducible refine bset ?_ _ ?_); · (first | (simp; done) | (simp; omega) | omega)) | (with_reducible refine bdrewN _ ?_) | ((with_reducible refine bcall ?_ (by assumption) ?_); · (first | (simp; done) | (simp; omega) | omega))))
    · have hd : decide (5 < z) = false := decide_eq_false h5
      by_cases h4 : 4 < n
      · have e1 : hidB l = false := by rw [hhb]; simp; omega
        rw [hidF_no e1, e1]
        clear hb hx hg0 hhb hf e1 hll
        go_enter Try.func70, Try.ntmps70
        go_wp2_with fail
        refine (HC.out _ (hr.later (B := w.heap.size) (by (repeat (first | (with_reducible exact Below.refl _ _) | (with_reducible assumption) | (with_reducible refine Below.drew ?_) | ((with_reducible refine balloc ?_ _ ?_); · (first | (simp; done) | (simp; omega) | omega)) | ((with_reducible refine bset ?_ _ ?_); · (first | (simp; done) | (simp; omega) | omega)) | (with_reducible refine bdrewN _ ?_) | ((with_reducible refine bcall ?_ (by assumption) ?_); · (first | (simp; done) | (simp; omega) | omega))))) (Nat.le_refl _))).mono ?_; rintro e w1 ⟨rfl, hb1⟩
        rw [HB.out, HPD.out, ← HF.out]
        have p1 := (hb1.cell (p := ⟨b, o, none⟩) (by simp; omega)).trans ((World.cell?_alloc_lt _ _ ⟨b, o, none⟩ hbl).trans p0)
        have s1 := hb1.size
        simp at s1
        obtain ⟨hc1, hf1⟩ := bcell hb1
        have z0 : w.heap.size < w1.heap.size := by omega
        have zb : b < w1.heap.size := by omega
        go_wp2
        refine bodyPost_ret (v := .tuple #[arrF (fun _ => 0), .bool false]) (by simp [results, Try.results70, go_sem, hc1, z0]) rfl ⟨rfl, ?_⟩
        (repeat (first | (with_reducible exact Below.refl _ _) | (with_reducible assumption) | (with_reducible refine Below.drew ?_) | ((with_reducible refine balloc ?_ _ ?_); · (first | (simp; done) | (simp; omega) | omega)) | ((with_reducible refine bset ?_ _ ?_); · (first | (simp; done) | (simp; omega) | omega)) | (with_reducible refine bdrewN _ ?_) | ((with_reducible refine bcall ?_ (by assumption) ?_); · (first | (simp; done) | (simp; omega) | omega))))
      · have e1 : hidB l = true := by rw [hhb]; simp; omega
        rw [hidF_yes e1, e1]
        rw [← hf]
        have hd4 : decide (4 < (n : Int)) = false := decide_eq_false (by omega)
        clear hb hx hg0 hhb hf e1 hll
        go_enter Try.func70, Try.ntmps70
        go_wp2_with fail
        refine (HC.out _ (hr.later (B := w.heap.size) (by (repeat (first | (with_reducible exact Below.refl _ _) | (with_reducible assumption) | (with_reducible refine Below.drew ?_) | ((with_reducible refine balloc ?_ _ ?_); · (first | (simp; done) | (simp; omega) | omega)) | ((with_reducible refine bset ?_ _ ?_); · (first | (simp; done) | (simp; omega) | omega)) | (with_reducible refine bdrewN _ ?_) | ((with_reducible refine bcall ?_ (by assumption) ?_); · (first | (simp; done) | (simp; omega) | omega))))) (Nat.le_refl _))).mono ?_; rintro e w1 ⟨rfl, hb1⟩
        rw [HB.out, HPD.out, ← HF.out]
        have p1 := (hb1.cell (p := ⟨b, o, none⟩) (by simp; omega)).trans ((World.cell?_alloc_lt _ _ ⟨b, o, none⟩ hbl).trans p0)
        have s1 := hb1.size
        simp at s1
        obtain ⟨hc1, hf1⟩ := bcell hb1
        have z0 : w.heap.size < w1.heap.size := by omega
        have zb : b < w1.heap.size := by omega
        go_wp2
        refine bodyPost_ret (v := .tuple #[arrF f, .bool true]) (by simp [results, Try.results70, go_sem, hc1, z0]) rfl ⟨rfl, ?_⟩
        (repeat (first | (with_reducible exact Below.refl _ _) | (with_reducible assumption) | (with_reducible refine Below.drew ?_) | ((with_reducible refine balloc ?_ _ ?_); · (first | (simp; done) | (simp; omega) | omega)) | ((with_reducible refine bset ?_ _ ?_); · (first | (simp; done) | (simp; omega) | omega)) | (with_reducible refine bdrewN _ ?_) | ((with_reducible refine bcall ?_ (by assumption) ?_); · (first | (simp; done) | (simp; omega) | omega))))

set_option maxRecDepth 100000 in
set_option maxHeartbeats 2000000 in
theorem pzHidden_any (A : Option Addr) (n c : Nat) (l : List Int) (w : World) (hr : Rd w 1 A n (intCells l)) (hn : n ≤ 1000000000) :
    Calls Try.prog 67 #[.slice A n c] w fun e w' => e = .returned (.bool (hidB l)) ∧ Below w.heap.size w w' := by
  have HC := Lib.hid (fun wx h => cmGood_any A n c l wx h hn)
  have hll := hr.ilen
  cases hb : chB l
  · rw [show hidB l = false by simp [hidB, hb]]
    rw [hb] at HC
    clear hb
    go_enter Try.func67, Try.ntmps67
    go_wp2_with fail
    refine (HC.out _ hr).mono ?_; rintro e w1 ⟨rfl, hb1⟩
    go_wp2
    go_ret
    exact ⟨rfl, hb1⟩
  · have hl := chB_true.1 hb
    have n1 : 0 < n := by have := hl.1; omega
    obtain ⟨b, o, rfl, hbl, hx, p0⟩ := hr.num n1
    rw [Nat.add_zero] at p0
    have hhb : hidB l = (decide (l.length ≤ 4) && decide (l.getD 0 0 ≤ 5)) := by simp [hidB, hb]
    rw [hll, show l.getD 0 0 = l[0] by simp [List.getD, hx]] at hhb
    rw [hb] at HC
    generalize l[0] = z at *
    rw [hhb]
    have hr2 := Lib.hid hr
    clear hb hx hhb hl hll
    by_cases h4 : n ≤ 4
    · have hd4 : decide (n ≤ 4) = true := decide_eq_true h4
      rw [hd4, Bool.true_and]
      go_enter Try.func67, Try.ntmps67
      go_wp2_with fail
      refine (HC.out _ hr).mono ?_; rintro e w1 ⟨rfl, hb1⟩
      have p1 := (hb1.cell (p := ⟨b, o, none⟩) hbl).trans p0
      go_wp2
      go_ret
      exact ⟨rfl, hb1⟩
    · have hd4 : decide (n ≤ 4) = false := decide_eq_false h4
      rw [hd4, Bool.false_and]
      go_enter Try.func67, Try.ntmps67
      go_wp2_with fail
      refine (HC.out _ hr).mono ?_; rintro e w1 ⟨rfl, hb1⟩
      go_wp2
      go_ret
      exact ⟨rfl, hb1⟩
end Go.Proofs.Ytghlgmbekgfmnaa
