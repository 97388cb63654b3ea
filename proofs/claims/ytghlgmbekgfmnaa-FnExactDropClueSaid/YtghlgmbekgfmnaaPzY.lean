/-
  Contracts: DropClue of the program and of the model. Conditions: none.
-/
import Derived.Test.YtghlgmbekgfmnaaPzX
import Derived.Test.YtghlgmbekgfmnaaPzC
import Derived.Test.YtghlgmbekgfmnaaPzM
namespace Go.Proofs.Ytghlgmbekgfmnaa
open Go.RowKit Go.Maps
set_option linter.unusedVariables false
set_option linter.unusedSimpArgs false

/-- what DropClue returns -/
def dropB (S : List Clu) (k : Int) : Bool := pzB S && decide (0 ≤ k ∧ k < (S.length : Int))
def dropR (S : List Clu) (k : Int) : List Clu := if dropB S k then woL S k.toNat else []
theorem length_dropR (S : List Clu) (k : Int) : (dropR S k).length ≤ 6 := by
  unfold dropR
  cases h : dropB S k
  · simp
  · simp only [if_true]
    simp only [dropB, Bool.and_eq_true, decide_eq_true_eq] at h
    have h6 := (pzB_true h.1).1
    rw [length_woL (by omega)]
    omega

set_option maxRecDepth 100000 in
set_option maxHeartbeats 4000000 in
theorem dropClue_any (A : Option Addr) (n c : Nat) (S : List Clu) (k : Int) (w : World) (hr : Rd w 3 A n (boxCells S)) (hn : n ≤ 4000000000) (hnc : n ≤ c) (hcm : c ≤ 4000000000) :
    Calls Try.prog 49 #[puzV A n c, .int .i64 k] w fun e w' => ∃ A' n' c', e = .returned (.tuple #[puzV A' n' c', .bool (dropB S k)]) ∧ w'.ownsRow w.heap.size 25 3 (.slice A' n' c') n' (boxCells (dropR S k)) ∧ Below w.heap.size w w' := by
  have HG := Lib.hid (fun wx h => isPuzzle_any A n c S wx h hn)
  have hll : S.length = n := by have := hr.1; rw [length_boxCells] at this; omega
  have hba : Below w.heap.size w ((w.alloc (.cells #[.slice A n c] 35)).alloc (.cells #[.slice none 0 0] 35)) := by (repeat (first | (with_reducible exact Below.refl _ _) | (with_reducible assumption) | (with_reducible refine Below.drew ?_) | ((with_reducible refine balloc ?_ _ ?_); · (first | (simp; done) | (simp; omega) | omega)) | ((with_reducible refine bset ?_ _ ?_); · (first | (simp; done) | (simp; omega) | omega)) | (with_reducible refine bdrewN _ ?_) | ((with_reducible refine bcall ?_ (by assumption) ?_); · (first | (simp; done) | (simp; omega) | omega))))
  cases hd : dropB S k
  · have e1 : dropR S k = [] := by simp [dropR, hd]
    rw [e1]
    have hcase : pzB S = false ∨ (pzB S = true ∧ k < 0) ∨ (pzB S = true ∧ ¬ k < 0 ∧ (n : Int) ≤ k) := by
      cases hp : pzB S
      · exact .inl rfl
      · have h2 : ¬ (0 ≤ k ∧ k < (n : Int)) := by
          intro h
          rw [dropB, hp, hll] at hd
          simp [h] at hd
        by_cases h3 : k < 0
        · exact .inr (.inl ⟨rfl, h3⟩)
        · exact .inr (.inr ⟨rfl, h3, by omega⟩)
    clear hd e1 hll
    rcases hcase with hp | ⟨hp, hk⟩ | ⟨hp, hk, hk2⟩
    all_goals
      rw [hp] at HG
      go_enter Try.func49, Try.ntmps49
      go_wp2_with fail
      refine (HG.out _ (hr.later (B := w.heap.size) hba (Nat.le_refl _))).mono ?_; rintro e w1 ⟨rfl, hb1⟩
      have s1 := hb1.size
      simp at s1
      have d0 : w1.cell? ⟨w.heap.size, 0, none⟩ = some (.slice A n c) := (hb1.cell (p := ⟨w.heap.size, 0, none⟩) (by first | (simp; done) | (simp; omega))).trans (by simp [go_sem])
      have d1 : w1.cell? ⟨w.heap.size + 1, 0, none⟩ = some (.slice none 0 0) := (hb1.cell (p := ⟨w.heap.size + 1, 0, none⟩) (by simp)).trans (by simp [go_sem])
      have f1 : w1.frozen? ⟨w.heap.size + 1, 0, none⟩ = false := (hb1.frozen (p := ⟨w.heap.size + 1, 0, none⟩) (by simp)).trans (by simp [go_sem])
      have hB1 := hba.trans (hb1.mono hba.size)
      clear hb1
      go_wp2
      refine bodyPost_ret (v := .tuple #[puzV none 0 0, .bool false]) (by simp [results, Try.results49, go_sem, d1]) rfl ⟨none, 0, 0, rfl, World.ownsRow_nil _ _ _ _, ?_⟩
      exact bset (p := ⟨w.heap.size + 1, 0, none⟩) (by simp) _ hB1
  · obtain ⟨hp, hk0, hkn⟩ : pzB S = true ∧ 0 ≤ k ∧ k < (n : Int) := by
      simp only [dropB, Bool.and_eq_true, decide_eq_true_eq, hll] at hd
      exact ⟨hd.1, hd.2.1, hd.2.2⟩
    have e1 : dropR S k = woL S k.toNat := by simp [dropR, hd]
    rw [e1]
    obtain ⟨kn, rfl⟩ : ∃ kn : Nat, k = kn := ⟨k.toNat, by omega⟩
    rw [Int.toNat_natCast]
    have n6 : n ≤ 6 := by have := (pzB_true hp).1; omega
    have n0 : 0 < n := by omega
    obtain ⟨b, o, rfl, hbl, _⟩ := hr.2 n0
    have HW := Lib.hid (fun wx h => withoutClue_any b o n c kn S wx h (by omega) (by omega) hnc hcm)
    have HR := Lib.hid hr
    rw [hp] at HG
    clear hd e1 hll hp
    go_enter Try.func49, Try.ntmps49
    go_wp2_with fail
    refine (HG.out _ (hr.later (B := w.heap.size) hba (Nat.le_refl _))).mono ?_; rintro e w1 ⟨rfl, hb1⟩
    have s1 := hb1.size
    simp at s1
    have d0 : w1.cell? ⟨w.heap.size, 0, none⟩ = some (.slice (some ⟨b, o, none⟩) n c) := (hb1.cell (p := ⟨w.heap.size, 0, none⟩) (by first | (simp; done) | (simp; omega))).trans (by simp [go_sem])
    have d1 : w1.cell? ⟨w.heap.size + 1, 0, none⟩ = some (.slice none 0 0) := (hb1.cell (p := ⟨w.heap.size + 1, 0, none⟩) (by simp)).trans (by simp [go_sem])
    have f1 : w1.frozen? ⟨w.heap.size + 1, 0, none⟩ = false := (hb1.frozen (p := ⟨w.heap.size + 1, 0, none⟩) (by simp)).trans (by simp [go_sem])
    have hB1 := hba.trans (hb1.mono hba.size)
    have HB1 := Lib.hid hB1
    clear hb1 hB1
    go_wp2_with fail
    refine (HW.out _ (HR.out.later HB1.out (Nat.le_refl _))).mono ?_; rintro e w2 ⟨A2, c2, rfl, ho2, hb2⟩
    have s2 := hb2.size
    have d2 := (hb2.cell (p := ⟨w.heap.size + 1, 0, none⟩) (by show w.heap.size + 1 < w1.heap.size; omega)).trans d1
    have f2 := (hb2.frozen (p := ⟨w.heap.size + 1, 0, none⟩) (by show w.heap.size + 1 < w1.heap.size; omega)).trans f1
    have hB2 := HB1.out.trans (hb2.mono HB1.out.size)
    have HO := Lib.hid (own_setO (b := w.heap.size + 1) (o := 0) ho2 (.slice A2 (n - 1) c2) (fun e => by have := (ho2.lt _ e).1; omega))
    have HOB := Lib.hid (own_base HO.out HB1.out.size)
    clear hb2 ho2
    go_wp2
    refine bodyPost_ret (v := .tuple #[puzV A2 (n - 1) c2, .bool true]) (by simp [results, Try.results49, go_sem, d2]) rfl ⟨A2, n - 1, c2, rfl, HOB.out, ?_⟩
    exact bset (p := ⟨w.heap.size + 1, 0, none⟩) (by simp) _ hB2

set_option maxRecDepth 100000 in
set_option maxHeartbeats 4000000 in
theorem sDropClue_any (A : Option Addr) (n c : Nat) (S : List Clu) (k : Int) (w : World) (hr : Rd w 3 A n (boxCells S)) (hn : n ≤ 4000000000) (hnc : n ≤ c) (hcm : c ≤ 4000000000) :
    Calls Try.prog 48 #[puzV A n c, .int .i64 k] w fun e w' => ∃ A' n' c', e = .returned (.tuple #[puzV A' n' c', .bool (dropB S k)]) ∧ w'.ownsRow w.heap.size 25 3 (.slice A' n' c') n' (boxCells (dropR S k)) ∧ Below w.heap.size w w' := by
  have HG := Lib.hid (fun wx h => pzGood_any A n c S wx h hn)
  have hll : S.length = n := by have := hr.1; rw [length_boxCells] at this; omega
  have hba : Below w.heap.size w ((w.alloc (.cells #[.slice A n c] 35)).alloc (.cells #[.slice none 0 0] 35)) := by (repeat (first | (with_reducible exact Below.refl _ _) | (with_reducible assumption) | (with_reducible refine Below.drew ?_) | ((with_reducible refine balloc ?_ _ ?_); · (first | (simp; done) | (simp; omega) | omega)) | ((with_reducible refine bset ?_ _ ?_); · (first | (simp; done) | (simp; omega) | omega)) | (with_reducible refine bdrewN _ ?_) | ((with_reducible refine bcall ?_ (by assumption) ?_); · (first | (simp; done) | (simp; omega) | omega))))
  have hinb : inB k 0 ((n : Int) - 1) = decide (0 ≤ k ∧ k < (n : Int)) := by
    simp only [inB]
    congr 1
    apply propext
    omega
  have HIN := Lib.hid (fun wx => l1In_any k 0 ((n : Int) - 1) wx)
  rw [hinb] at HIN
  cases hd : dropB S k
  · have e1 : dropR S k = [] := by simp [dropR, hd]
    rw [e1]
    have hcase : pzB S = false ∨ (pzB S = true ∧ decide (0 ≤ k ∧ k < (n : Int)) = false) := by
      cases hp : pzB S
      · exact .inl rfl
      · exact .inr ⟨rfl, by rw [dropB, hp, hll, Bool.true_and] at hd; exact hd⟩
    clear hd e1 hll hinb
    rcases hcase with hp | ⟨hp, hk⟩
    all_goals
      rw [hp] at HG
      try rw [hk] at HIN
      try clear hk
      go_enter Try.func48, Try.ntmps48
      go_wp2_with fail
      refine (HG.out _ (hr.later (B := w.heap.size) hba (Nat.le_refl _))).mono ?_; rintro e w1 ⟨rfl, hb1⟩
      have s1 := hb1.size
      simp at s1
      have d0 : w1.cell? ⟨w.heap.size, 0, none⟩ = some (.slice A n c) := (hb1.cell (p := ⟨w.heap.size, 0, none⟩) (by first | (simp; done) | (simp; omega))).trans (by simp [go_sem])
      have d1 : w1.cell? ⟨w.heap.size + 1, 0, none⟩ = some (.slice none 0 0) := (hb1.cell (p := ⟨w.heap.size + 1, 0, none⟩) (by simp)).trans (by simp [go_sem])
      have f1 : w1.frozen? ⟨w.heap.size + 1, 0, none⟩ = false := (hb1.frozen (p := ⟨w.heap.size + 1, 0, none⟩) (by simp)).trans (by simp [go_sem])
      have hB1 := hba.trans (hb1.mono hba.size)
      clear hb1
      go_wp2_with (go_at_call 81; refine (HIN.out _).mono ?_; rintro e wx ⟨rfl, rfl⟩)
      refine bodyPost_ret (v := .tuple #[puzV none 0 0, .bool false]) (by simp [results, Try.results48, go_sem, d1]) rfl ⟨none, 0, 0, rfl, World.ownsRow_nil _ _ _ _, ?_⟩
      exact bset (p := ⟨w.heap.size + 1, 0, none⟩) (by simp) _ hB1
  · obtain ⟨hp, hk0, hkn⟩ : pzB S = true ∧ 0 ≤ k ∧ k < (n : Int) := by
      simp only [dropB, Bool.and_eq_true, decide_eq_true_eq, hll] at hd
      exact ⟨hd.1, hd.2.1, hd.2.2⟩
    have e1 : dropR S k = woL S k.toNat := by simp [dropR, hd]
    rw [e1]
    rw [decide_eq_true (And.intro hk0 hkn)] at HIN
    clear hinb
    obtain ⟨kn, rfl⟩ : ∃ kn : Nat, k = kn := ⟨k.toNat, by omega⟩
    rw [Int.toNat_natCast]
    have n6 : n ≤ 6 := by have := (pzB_true hp).1; omega
    have n0 : 0 < n := by omega
    obtain ⟨b, o, rfl, hbl, _⟩ := hr.2 n0
    have HW := Lib.hid (fun wx h => pzWithout_any b o n c kn S wx h (by omega) (by omega) hnc hcm)
    have HR := Lib.hid hr
    rw [hp] at HG
    clear hd e1 hll hp
    go_enter Try.func48, Try.ntmps48
    go_wp2_with fail
    refine (HG.out _ (hr.later (B := w.heap.size) hba (Nat.le_refl _))).mono ?_; rintro e w1 ⟨rfl, hb1⟩
    have s1 := hb1.size
    simp at s1
    have d0 : w1.cell? ⟨w.heap.size, 0, none⟩ = some (.slice (some ⟨b, o, none⟩) n c) := (hb1.cell (p := ⟨w.heap.size, 0, none⟩) (by first | (simp; done) | (simp; omega))).trans (by simp [go_sem])
    have d1 : w1.cell? ⟨w.heap.size + 1, 0, none⟩ = some (.slice none 0 0) := (hb1.cell (p := ⟨w.heap.size + 1, 0, none⟩) (by simp)).trans (by simp [go_sem])
    have f1 : w1.frozen? ⟨w.heap.size + 1, 0, none⟩ = false := (hb1.frozen (p := ⟨w.heap.size + 1, 0, none⟩) (by simp)).trans (by simp [go_sem])
    have hB1 := hba.trans (hb1.mono hba.size)
    have HB1 := Lib.hid hB1
    clear hb1 hB1
    go_wp2_with fail
    refine (HIN.out _).mono ?_; rintro e wx ⟨rfl, rfl⟩
    go_wp2_with fail
    refine (HW.out _ (HR.out.later HB1.out (Nat.le_refl _))).mono ?_; rintro e w2 ⟨A2, c2, rfl, ho2, hb2⟩
    have s2 := hb2.size
    have d2 := (hb2.cell (p := ⟨w.heap.size + 1, 0, none⟩) (by show w.heap.size + 1 < w1.heap.size; omega)).trans d1
    have f2 := (hb2.frozen (p := ⟨w.heap.size + 1, 0, none⟩) (by show w.heap.size + 1 < w1.heap.size; omega)).trans f1
    have hB2 := HB1.out.trans (hb2.mono HB1.out.size)
    have HO := Lib.hid (own_setO (b := w.heap.size + 1) (o := 0) ho2 (.slice A2 (n - 1) c2) (fun e => by have := (ho2.lt _ e).1; omega))
    have HOB := Lib.hid (own_base HO.out HB1.out.size)
    clear hb2 ho2
    go_wp2
    refine bodyPost_ret (v := .tuple #[puzV A2 (n - 1) c2, .bool true]) (by simp [results, Try.results48, go_sem, d2]) rfl ⟨A2, n - 1, c2, rfl, HOB.out, ?_⟩
    exact bset (p := ⟨w.heap.size + 1, 0, none⟩) (by simp) _ hB2
end Go.Proofs.Ytghlgmbekgfmnaa
