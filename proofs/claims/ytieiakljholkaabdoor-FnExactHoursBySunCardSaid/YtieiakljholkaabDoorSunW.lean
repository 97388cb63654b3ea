/-
  Words for suns: lines of a tablet that are seen from a side, the first square of each taken out, turned tablets. Nothing of the program is named here.
-/
import Derived.Test.YtieiakljholkaabDoorTabW
namespace Go.Proofs.YtieiakljholkaabDoor
open Go.RowKit
set_option linter.unusedVariables false
set_option linter.unusedSimpArgs false

/-- lines of a tablet, in the order that a sun sees their squares -/
structure Lines (W n lines long : Nat) (py px lo po : Nat → Nat → Nat) : Prop where
  to : ∀ y x, y < n → x < W → lo y x < lines ∧ po y x < long ∧ py (lo y x) (po y x) = y ∧ px (lo y x) (po y x) = x
  back : ∀ l i, l < lines → i < long → py l i < n ∧ px l i < W ∧ lo (py l i) (px l i) = l ∧ po (py l i) (px l i) = i

/-- the first square of each line taken out -/
def sunF (py px lo po : Nat → Nat → Nat) (g : Nat → Nat → Bool) : Nat → Nat → Bool := fun y x => g y x && (List.range (po y x)).any fun i => g (py (lo y x) i) (px (lo y x) i)
/-- of the first l lines -/
def sunP (py px lo po : Nat → Nat → Nat) (g : Nat → Nat → Bool) (l : Nat) : Nat → Nat → Bool := fun y x => if lo y x < l then sunF py px lo po g y x else g y x

section
variable {W n lines long : Nat} {py px lo po : Nat → Nat → Nat} {g : Nat → Nat → Bool}
theorem sunP_zero : sunP py px lo po g 0 = g := by funext y x; simp [sunP]
theorem sunP_end (h : Lines W n lines long py px lo po) : ∀ y, y < n → ∀ x, x < W → sunP py px lo po g lines y x = sunF py px lo po g y x := by
  intro y hy x hx
  simp [sunP, (h.to y x hy hx).1]
theorem sunP_at (h : Lines W n lines long py px lo po) {l i : Nat} (hl : l < lines) (hi : i < long) : sunP py px lo po g l (py l i) (px l i) = g (py l i) (px l i) := by
  have := (h.back l i hl hi).2.2.1
  simp [sunP, this]
theorem any_before {f : Nat → Bool} {i j : Nat} (h0 : ∀ k, k < i → f k = false) (h1 : f i = true) : (List.range j).any f = decide (i < j) := by
  by_cases hj : i < j
  · rw [decide_eq_true hj, List.any_eq_true]
    exact ⟨i, List.mem_range.2 hj, h1⟩
  · rw [decide_eq_false hj, List.any_eq_false]
    intro k hk
    have := List.mem_range.1 hk
    rw [h0 k (by omega)]
    simp
theorem sunP_none (h : Lines W n lines long py px lo po) {l : Nat} (h0 : ∀ j, j < long → g (py l j) (px l j) = false) : ∀ y, y < n → ∀ x, x < W → sunP py px lo po g l y x = sunP py px lo po g (l + 1) y x := by
  intro y hy x hx
  obtain ⟨a, b, c, d⟩ := h.to y x hy hx
  unfold sunP
  by_cases h1 : lo y x < l
  · rw [if_pos h1, if_pos (by omega)]
  · rw [if_neg h1]
    by_cases h2 : lo y x < l + 1
    · rw [if_pos h2]
      have e : lo y x = l := by omega
      have := h0 (po y x) b
      rw [← e, c, d] at this
      simp [sunF, this]
    · rw [if_neg h2]
theorem sunP_found (h : Lines W n lines long py px lo po) {l i : Nat} (hl : l < lines) (hi : i < long) (h0 : ∀ j, j < i → g (py l j) (px l j) = false) (h1 : g (py l i) (px l i) = true) : ∀ y, y < n → ∀ x, x < W → bite (sunP py px lo po g l) (py l i) (px l i) y x = sunP py px lo po g (l + 1) y x := by
  intro y hy x hx
  obtain ⟨a, b, c, d⟩ := h.to y x hy hx
  obtain ⟨e1, e2, e3, e4⟩ := h.back l i hl hi
  by_cases e : lo y x = l
  · have hs : sunP py px lo po g l y x = g y x := by simp [sunP, e]
    have hs2 : sunP py px lo po g (l + 1) y x = (g y x && decide (i < po y x)) := by
      have : sunP py px lo po g (l + 1) y x = sunF py px lo po g y x := by simp [sunP, e]
      rw [this]
      unfold sunF
      rw [e, any_before (f := fun i => g (py l i) (px l i)) h0 h1]
    rw [hs2]
    simp only [bite, hs]
    by_cases q : po y x = i
    · rw [e, q] at c d
      simp [c, d, q]
    · have hne : ¬ (y = py l i ∧ x = px l i) := by
        rintro ⟨rfl, rfl⟩
        exact q e4
      rcases Nat.lt_or_ge (po y x) i with q1 | q1
      · have := h0 _ q1
        rw [← e, c, d] at this
        simp [this]
      · have : decide (i < po y x) = true := decide_eq_true (by omega)
        rw [this]
        by_cases u : y = py l i <;> by_cases v : x = px l i <;> simp_all
  · have hne : ¬ (y = py l i ∧ x = px l i) := by
      rintro ⟨rfl, rfl⟩
      exact e e3
    have : bite (sunP py px lo po g l) (py l i) (px l i) y x = sunP py px lo po g l y x := by
      by_cases u : y = py l i <;> by_cases v : x = px l i <;> simp_all [bite]
    rw [this]
    unfold sunP
    by_cases h1 : lo y x < l
    · rw [if_pos h1, if_pos (by omega)]
    · rw [if_neg h1, if_neg (by omega)]
end

def uPy : Nat → Nat → Nat := fun l i => i
def uPx : Nat → Nat → Nat := fun l i => l
def uLo : Nat → Nat → Nat := fun y x => x
def uPo : Nat → Nat → Nat := fun y x => y
theorem lines_u (W n : Nat) : Lines W n W n uPy uPx uLo uPo := ⟨fun y x hy hx => ⟨hx, hy, rfl, rfl⟩, fun l i hl hi => ⟨hi, hl, rfl, rfl⟩⟩
def dPy (n : Nat) : Nat → Nat → Nat := fun l i => n - 1 - i
def dPo (n : Nat) : Nat → Nat → Nat := fun y x => n - 1 - y
theorem lines_d (W n : Nat) : Lines W n W n (dPy n) uPx uLo (dPo n) := ⟨fun y x hy hx => ⟨hx, by unfold dPo; omega, by unfold dPy dPo; omega, rfl⟩, fun l i hl hi => ⟨by unfold dPy; omega, hl, rfl, by unfold dPy dPo; omega⟩⟩
def lPy : Nat → Nat → Nat := fun l i => l
def lPx : Nat → Nat → Nat := fun l i => i
def lLo : Nat → Nat → Nat := fun y x => y
def lPo : Nat → Nat → Nat := fun y x => x
theorem lines_l (W n : Nat) : Lines W n n W lPy lPx lLo lPo := ⟨fun y x hy hx => ⟨hy, hx, rfl, rfl⟩, fun l i hl hi => ⟨hl, hi, rfl, rfl⟩⟩
def rPx (W : Nat) : Nat → Nat → Nat := fun l i => W - 1 - i
def rPo (W : Nat) : Nat → Nat → Nat := fun y x => W - 1 - x
theorem lines_r (W n : Nat) : Lines W n n W lPy (rPx W) lLo (rPo W) := ⟨fun y x hy hx => ⟨hy, by unfold rPo; omega, rfl, by unfold rPx rPo; omega⟩, fun l i hl hi => ⟨hl, by unfold rPx; omega, rfl, by unfold rPx rPo; omega⟩⟩

/-- the tablet turned so many times -/
def turnG (n : Nat) (g : Nat → Nat → Bool) : Nat → Nat → Bool := fun y x => g (n - 1 - x) y
def tW (W n k : Nat) : Nat := if k % 2 = 0 then W else n
def tG (W n : Nat) (g : Nat → Nat → Bool) : Nat → Nat → Nat → Bool
  | 0 => g
  | k + 1 => turnG (tW n W k) (tG W n g k)
theorem tW_succ (W n k : Nat) : tW W n (k + 1) = tW n W k := by unfold tW; split <;> split <;> first | rfl | omega
/-- the first square of each row taken out -/
def litG (g : Nat → Nat → Bool) : Nat → Nat → Bool := fun y x => g y x && (List.range x).any (g y)

/-- the side of a sun: l, d, r and u are 0, 1, 2 and 3 -/
def sunG (W n k : Nat) (g : Nat → Nat → Bool) : Nat → Nat → Bool :=
  match k with
  | 0 => sunF lPy lPx lLo lPo g
  | 1 => sunF (dPy n) uPx uLo (dPo n) g
  | 2 => sunF lPy (rPx W) lLo (rPo W) g
  | _ => sunF uPy uPx uLo uPo g
theorem any_congr {f f' : Nat → Bool} {m : Nat} (h : ∀ i, i < m → f i = f' i) : (List.range m).any f = (List.range m).any f' := by
  rw [Bool.eq_iff_iff, List.any_eq_true, List.any_eq_true]
  constructor
  · rintro ⟨i, hi, q⟩; exact ⟨i, hi, by rw [← h i (List.mem_range.1 hi)]; exact q⟩
  · rintro ⟨i, hi, q⟩; exact ⟨i, hi, by rw [h i (List.mem_range.1 hi)]; exact q⟩
/-- turned, lit from the left, turned back -/
theorem sun_turned (W n k : Nat) (hk : k ≤ 3) (g : Nat → Nat → Bool) : ∀ y, y < n → ∀ x, x < W → tG (tW W n k) (tW n W k) (litG (tG W n g k)) (4 - k) y x = sunG W n k g y x := by
  intro y hy x hx
  have e1 : n - 1 - (n - 1 - y) = y := by omega
  have e2 : W - 1 - (W - 1 - x) = x := by omega
  rcases (show k = 0 ∨ k = 1 ∨ k = 2 ∨ k = 3 by omega) with rfl | rfl | rfl | rfl
  · simp only [tG, tW, turnG, litG, sunG, sunF, lPy, lPx, lLo, lPo, Nat.zero_mod, Nat.sub_zero, if_true, Nat.reduceMod, e1, e2]
    simp [e1, e2]
  · simp only [tG, tW, turnG, litG, sunG, sunF, dPy, dPo, uPx, uLo, Nat.reduceMod, Nat.reduceSub]
    simp [e1, e2]
    congr 1
  · simp only [tG, tW, turnG, litG, sunG, sunF, lPy, rPx, rPo, lLo, Nat.reduceMod, Nat.reduceSub]
    simp [e1, e2]
    congr 1
    apply any_congr
    intro i hi
    simp only [turnG, e1]
  · simp only [tG, tW, turnG, litG, sunG, sunF, uPy, uPx, uLo, uPo, Nat.reduceMod, Nat.reduceSub]
    simp [e1, e2]
    congr 1
    apply any_congr
    intro i hi
    simp only [turnG, e2]
    rw [show n - 1 - (n - 1 - i) = i by omega]

/-- a row with its first square taken out, as the library replaces it -/
theorem count_lit (W : Nat) (f : Nat → Bool) : ((List.range W).countP fun x => f x && (List.range x).any f) = (List.range W).countP f - 1 := by
  induction W with
  | zero => rfl
  | succ W ih =>
    rw [List.range_succ, List.countP_append, List.countP_append, ih, List.countP_singleton, List.countP_singleton]
    by_cases hf : f W = true
    · by_cases ha : (List.range W).any f = true
      · have : 0 < (List.range W).countP f := List.countP_pos_iff.2 (List.any_eq_true.1 ha)
        simp [hf, ha]
        omega
      · have : (List.range W).countP f = 0 := by
          rw [List.countP_eq_zero]
          intro x hx h
          exact ha (List.any_eq_true.2 ⟨x, hx, h⟩)
        simp only [Bool.not_eq_true] at ha
        simp [hf, ha, this]
    · simp only [Bool.not_eq_true] at hf
      simp [hf]

end Go.Proofs.YtieiakljholkaabDoor
