/-
  Words: chomps behind bites, as lists and as arrays. Nothing of the program is named here.
-/
import Derived.Test.YtghlgmbekgfmnaaChW
namespace Go.Proofs.Ytghlgmbekgfmnaa
open Go.RowKit
set_option linter.unusedVariables false

/-- the positive ones of the first n numbers -/
def rowsK (f : Nat → Int) (n : Nat) : List Int := ((List.range n).map f).filter fun z => decide (0 < z)
theorem rowsK_succ (f : Nat → Int) (n : Nat) : rowsK f (n + 1) = rowsK f n ++ (if 0 < f n then [f n] else []) := by
  simp only [rowsK, List.range_succ, List.map_append, List.filter_append]
  congr 1
  by_cases h : 0 < f n
  · simp [h]
  · simp [h]
theorem length_rowsK (f : Nat → Int) (n : Nat) : (rowsK f n).length ≤ n := by
  have h := List.length_filter_le (fun z : Int => decide (0 < z)) ((List.range n).map f)
  simpa [rowsK] using h
theorem rowsK_congr {f g : Nat → Int} {n : Nat} (h : ∀ j, j < n → f j = g j) : rowsK f n = rowsK g n := by
  induction n with
  | zero => rfl
  | succ n ih => rw [rowsK_succ, rowsK_succ, ih (fun j hj => h j (by omega)), h n (by omega)]
theorem rowsK_more {f : Nat → Int} {n : Nat} (m : Nat) (h : ∀ j, n ≤ j → j < n + m → f j ≤ 0) : rowsK f (n + m) = rowsK f n := by
  induction m with
  | zero => rfl
  | succ m ih =>
    rw [← Nat.add_assoc, rowsK_succ, ih (fun j h1 h2 => h j h1 (by omega)), if_neg (by have := h (n + m) (by omega) (by omega); omega)]
    simp

/-- falling numbers, none below 0, at most 6 -/
structure Fall (f : Nat → Int) : Prop where
  ge0 : ∀ j, 0 ≤ f j
  step : ∀ j, f (j + 1) ≤ f j
  le6 : f 0 ≤ 6
theorem Fall.anti {f : Nat → Int} (h : Fall f) {k j : Nat} (hkj : k ≤ j) : f j ≤ f k := by
  induction j with
  | zero => have : k = 0 := by omega
            subst this; omega
  | succ j ih =>
    by_cases e : k = j + 1
    · subst e; omega
    · have := ih (by omega); have := h.step j; omega
theorem Fall.rows {f : Nat → Int} (h : Fall f) (n : Nat) : ∃ m, m ≤ n ∧ rowsK f n = (List.range m).map f ∧ (∀ j, j < m → 0 < f j) ∧ ∀ j, m ≤ j → j < n → f j = 0 := by
  induction n with
  | zero => exact ⟨0, Nat.le_refl _, rfl, fun j hj => absurd hj (by omega), fun j _ hj => absurd hj (by omega)⟩
  | succ n ih =>
    obtain ⟨m, hm, he, h1, h2⟩ := ih
    rw [rowsK_succ]
    by_cases hp : 0 < f n
    · have hmn : m = n := by
        by_cases e : m = n
        · exact e
        · have a := h2 m (Nat.le_refl _) (by omega)
          have b := h.anti (show m ≤ n by omega)
          omega
      subst hmn
      refine ⟨m + 1, by omega, ?_, fun j hj => ?_, fun j h3 h4 => absurd h3 (by omega)⟩
      · rw [he, if_pos hp, List.range_succ]
        simp
      · by_cases e : j = m
        · subst e; exact hp
        · exact h1 j (by omega)
    · refine ⟨m, by omega, by rw [he, if_neg hp]; simp, h1, fun j h3 h4 => ?_⟩
      by_cases e : j = n
      · subst e; have := h.ge0 j; omega
      · exact h2 j h3 (by omega)
theorem Fall.getD {f : Nat → Int} (h : Fall f) {n j : Nat} (hj : j < n) : (rowsK f n).getD j 0 = f j := by
  obtain ⟨m, hm, he, h1, h2⟩ := h.rows n
  rw [he]
  by_cases e : j < m
  · simp [List.getD, e]
  · rw [getD_past (by simp; omega), h2 j (by omega) hj]
theorem Fall.getD6 {f : Nat → Int} (h : Fall f) (h6 : ∀ j, 6 ≤ j → f j = 0) (j : Nat) : (rowsK f 6).getD j 0 = f j := by
  by_cases e : j < 6
  · exact h.getD e
  · rw [getD_past (by have := length_rowsK f 6; omega), h6 j (by omega)]
theorem Fall.chOK {f : Nat → Int} (h : Fall f) (h0 : 1 ≤ f 0) : ChOK (rowsK f 6) := by
  obtain ⟨m, hm, he, h1, h2⟩ := h.rows 6
  have hm1 : 1 ≤ m := by
    by_cases e : m = 0
    · subst e; have := h2 0 (Nat.le_refl _) (by omega); omega
    · omega
  have hl : (rowsK f 6).length = m := by rw [he]; simp
  refine ⟨by omega, by omega, fun k hk => ?_⟩
  rw [h.getD (by omega)]
  refine ⟨by have := h1 k (by omega); omega, ?_⟩
  unfold lim
  split
  · rename_i e; subst e; exact h.le6
  · rename_i e
    rw [h.getD (by omega)]
    have := h.step (k - 1)
    rw [show k - 1 + 1 = k by omega] at this
    exact this
theorem ChOK.fall {l : List Int} (h : ChOK l) : Fall (fun j => l.getD j 0) := ⟨h.ge0, h.step, h.le6 0⟩
theorem ChOK.rows {l : List Int} (h : ChOK l) {n : Nat} (hn : l.length ≤ n) : rowsK (fun j => l.getD j 0) n = l := by
  obtain ⟨m, hm, he, h1, h2⟩ := h.fall.rows n
  have hml : m = l.length := by
    by_cases e : m < l.length
    · have a := h2 m (Nat.le_refl _) (by omega)
      have b := h.ge1 e
      have a' : l.getD m 0 = 0 := a
      omega
    · by_cases e2 : m = l.length
      · exact e2
      · have a := h1 l.length (by omega)
        have e3 : l.getD l.length 0 = 0 := getD_past (Nat.le_refl _)
        simp only [e3] at a
        omega
  rw [he, hml]
  apply List.ext_getElem
  · simp
  · intro i h3 h4
    simp only [List.getElem_map, List.getElem_range]
    exact getD_lt h4

def biteB (f : Nat → Int) (x y : Int) : Bool := decide (0 ≤ x ∧ 0 ≤ y ∧ y < 6 ∧ ¬ (x = 0 ∧ y = 0) ∧ x < f y.toNat)
def eatF (f : Nat → Int) (x : Int) (y : Nat) : Nat → Int := fun j => if y ≤ j then (if x < f j then x else f j) else f j
theorem eatF_fall {f : Nat → Int} (h : Fall f) {x : Int} {y : Nat} (hx : 0 ≤ x) : Fall (eatF f x y) := by
  refine ⟨fun j => ?_, fun j => ?_, ?_⟩
  · have := h.ge0 j
    unfold eatF
    split
    · split <;> omega
    · omega
  · have a := h.step j
    unfold eatF
    split <;> split <;> (try split) <;> (try split) <;> omega
  · have := h.le6
    unfold eatF
    split
    · split <;> omega
    · omega
theorem eatF_one {f : Nat → Int} (h0 : 1 ≤ f 0) {x : Int} {y : Nat} (hx : 0 ≤ x) (hne : ¬ (x = 0 ∧ y = 0)) : 1 ≤ eatF f x y 0 := by
  unfold eatF
  split
  · rename_i h
    have : y = 0 := by omega
    subst this
    split
    · by_cases e : x = 0
      · exact absurd ⟨e, rfl⟩ hne
      · omega
    · omega
  · omega
/-- the chomp behind a bite -/
def biteL (l : List Int) (x y : Int) : List Int := rowsK (eatF (fun j => l.getD j 0) x y.toNat) 6
def canC (l : List Int) (x y : Int) : Bool := biteB (fun j => l.getD j 0) x y
theorem canC_true {l : List Int} {x y : Int} (h : canC l x y = true) : 0 ≤ x ∧ 0 ≤ y ∧ y < 6 ∧ ¬ (x = 0 ∧ y = 0) ∧ x < l.getD y.toNat 0 := by
  simpa only [canC, biteB, decide_eq_true_eq] using h
theorem biteL_ok {l : List Int} (hl : ChOK l) {x y : Int} (h : canC l x y = true) : ChOK (biteL l x y) := by
  obtain ⟨h1, h2, h3, h4, h5⟩ := canC_true h
  exact (eatF_fall hl.fall h1).chOK (eatF_one (hl.ge1 hl.1) h1 (by omega))
theorem biteL_at {l : List Int} (hl : ChOK l) {x y : Int} (h : canC l x y = true) (j : Nat) : (biteL l x y).getD j 0 = eatF (fun j => l.getD j 0) x y.toNat j := by
  obtain ⟨h1, h2, h3, h4, h5⟩ := canC_true h
  refine (eatF_fall hl.fall h1).getD6 (fun i hi => ?_) j
  have e : l.getD i 0 = 0 := getD_past (by have := hl.2.1; omega)
  unfold eatF
  simp only [e]
  split
  · rw [if_neg (by omega)]
  · rfl
theorem eatF_congr {f g : Nat → Int} (h : ∀ j, j < 6 → f j = g j) (x : Int) (y : Nat) {j : Nat} (hj : j < 6) : eatF f x y j = eatF g x y j := by
  simp only [eatF, h j hj]
theorem biteB_congr {f g : Nat → Int} (h : ∀ j, j < 6 → f j = g j) (x y : Int) : biteB f x y = biteB g x y := by
  unfold biteB
  apply decide_eq_decide.2
  constructor
  · rintro ⟨h1, h2, h3, h4, h5⟩; exact ⟨h1, h2, h3, h4, by rw [← h _ (by omega)]; exact h5⟩
  · rintro ⟨h1, h2, h3, h4, h5⟩; exact ⟨h1, h2, h3, h4, by rw [h _ (by omega)]; exact h5⟩
/-- the model asks the same -/
theorem canC_model (l : List Int) (hl : ChOK l) (x y : Int) : canC l x y = (decide (0 ≤ y ∧ y ≤ (l.length : Int) - 1) && decide (0 ≤ x ∧ x ≤ l.getD y.toNat 0 - 1) && decide (0 < x + y)) := by
  show decide (0 ≤ x ∧ 0 ≤ y ∧ y < 6 ∧ ¬ (x = 0 ∧ y = 0) ∧ x < l.getD y.toNat 0) = _
  by_cases hy : 0 ≤ y ∧ y ≤ (l.length : Int) - 1
  · have := hl.2.1
    by_cases hx : 0 ≤ x ∧ x ≤ l.getD y.toNat 0 - 1
    · rw [decide_eq_true hy, decide_eq_true hx]
      simp only [Bool.true_and]
      exact decide_eq_decide.2 ⟨fun h => by have h5 : x < l.getD y.toNat 0 := h.2.2.2.2; omega, fun h => ⟨by omega, by omega, by omega, by omega, by show x < l.getD y.toNat 0; omega⟩⟩
    · rw [decide_eq_false hx, decide_eq_false (fun h => hx ⟨h.1, by omega⟩)]
      simp
  · rw [decide_eq_false hy]
    simp only [Bool.false_and]
    refine decide_eq_false fun h => hy ⟨h.2.1, ?_⟩
    by_cases e : y.toNat < l.length
    · omega
    · have := h.2.2.2.2
      rw [getD_past (by omega)] at this
      omega

/-- the chomp behind the first k bites, if all of them can be made -/
def stepM (o : Option (List Int)) (m : List Int) : Option (List Int) := o.bind fun l => if m.length = 2 ∧ canC l (m.getD 0 0) (m.getD 1 0) = true then some (biteL l (m.getD 0 0) (m.getD 1 0)) else none
def playK (l : List Int) (L : List (List Int)) (k : Nat) : Option (List Int) := (L.take k).foldl stepM (some l)
theorem playK_zero (l : List Int) (L : List (List Int)) : playK l L 0 = some l := rfl
theorem playK_succ {l : List Int} {L : List (List Int)} {k : Nat} (h : k < L.length) : playK l L (k + 1) = stepM (playK l L k) L[k] := by
  unfold playK
  rw [List.take_succ_eq_append_getElem h, List.foldl_append]
  rfl
theorem foldl_none (L : List (List Int)) : L.foldl stepM none = none := by
  induction L with
  | nil => rfl
  | cons m r ih => exact ih
theorem playK_none {l : List Int} {L : List (List Int)} {k : Nat} (h : k < L.length) (hn : playK l L (k + 1) = none) : playK l L L.length = none := by
  have e : L.take L.length = L.take (k + 1) ++ L.drop (k + 1) := by rw [List.take_length, List.take_append_drop]
  unfold playK at *
  rw [e, List.foldl_append, hn, foldl_none]
/-- what PlayChomp returns -/
def playO (l : List Int) (L : List (List Int)) : Option (List Int) := if chB l = true ∧ L.length ≤ 36 then playK l L L.length else none
def playB (l : List Int) (L : List (List Int)) : Bool := (playO l L).isSome
def playR (l : List Int) (L : List (List Int)) : List Int := (playO l L).getD []
theorem play_no {l : List Int} {L : List (List Int)} (h : playO l L = none) : playB l L = false ∧ playR l L = [] := by simp [playB, playR, h]
theorem play_yes {l r : List Int} {L : List (List Int)} (h : playO l L = some r) : playB l L = true ∧ playR l L = r := by simp [playB, playR, h]
theorem playK_ok {l : List Int} (hl : ChOK l) {L : List (List Int)} : ∀ {k : Nat} {r : List Int}, k ≤ L.length → playK l L k = some r → ChOK r := by
  intro k
  induction k with
  | zero => intro r _ h; simp [playK_zero] at h; subst h; exact hl
  | succ k ih =>
    intro r hk h
    rw [playK_succ (by omega)] at h
    simp only [stepM, Option.bind_eq_some_iff] at h
    obtain ⟨q, hq, h2⟩ := h
    split at h2
    · rename_i hc
      simp only [Option.some.injEq] at h2
      subst h2
      exact biteL_ok (ih (by omega) hq) hc.2
    · cases h2
theorem length_playR (l : List Int) (L : List (List Int)) : (playR l L).length ≤ 6 := by
  unfold playR
  rcases h : playO l L with _ | r
  · simp
  · unfold playO at h
    split at h
    · rename_i hc
      exact (playK_ok (chB_true.1 hc.1) (Nat.le_refl _) h).2.1
    · cases h

end Go.Proofs.Ytghlgmbekgfmnaa
