/-
  Words: the longest rows of boxes that go into each other: the program's recursion (a row for each first box) and the model's search (depth first, the best kept) give the same row. Nothing of the program is named here but boxes.
-/
import Derived.Test.YthbbddgjphdgjabBoxW
import Derived.Test.YthbbddgjphdgjabWrapV
namespace Go.Proofs.Ythbbddgjphdgjab
open Go.RowKit
set_option linter.unusedVariables false

abbrev Bx := Int × Int × Int
def intoP (p q : Bx) : Bool := intoB p.1 p.2.1 p.2.2 q.1 q.2.1 q.2.2
def zBx : Bx := (0, 0, 0)
/-- the longest row so far, behind the first boxes up to k; nx: the longest row into whose first box a box goes -/
def nestK (L : List Bx) (q : Bx) (nx : Bx → List Int) : Nat → List Int
  | 0 => []
  | k + 1 => if intoP q (L.getD k zBx) && decide ((nestK L q nx k).length < (nx (L.getD k zBx)).length + 1) then (k : Int) :: nx (L.getD k zBx) else nestK L q nx k
def nestP : Nat → List Bx → Bx → List Int
  | 0, _, _ => []
  | f + 1, L, q => nestK L q (nestP f L) L.length
theorem nestK_no {L : List Bx} {q : Bx} {nx : Bx → List Int} {k : Nat} (h : intoP q (L.getD k zBx) = false) : nestK L q nx (k + 1) = nestK L q nx k := by rw [nestK, h]; rfl
theorem nestK_more {L : List Bx} {q : Bx} {nx : Bx → List Int} {k : Nat} (h : intoP q (L.getD k zBx) = true) (hl : (nestK L q nx k).length < (nx (L.getD k zBx)).length + 1) : nestK L q nx (k + 1) = (k : Int) :: nx (L.getD k zBx) := by rw [nestK, h, decide_eq_true hl]; rfl
theorem nestK_short {L : List Bx} {q : Bx} {nx : Bx → List Int} {k : Nat} (hl : ¬ (nestK L q nx k).length < (nx (L.getD k zBx)).length + 1) : nestK L q nx (k + 1) = nestK L q nx k := by rw [nestK, decide_eq_false hl, Bool.and_false]; rfl
theorem nestK_length {L : List Bx} {q : Bx} {nx : Bx → List Int} {m : Nat} (h : ∀ b, (nx b).length ≤ m) : ∀ k, (nestK L q nx k).length ≤ m + 1
  | 0 => by simp [nestK]
  | k + 1 => by
    unfold nestK
    split
    · simp only [List.length_cons]; exact Nat.succ_le_succ (h _)
    · exact nestK_length h k
theorem nestP_length : ∀ (f : Nat) (L : List Bx) (q : Bx), (nestP f L q).length ≤ f
  | 0, _, _ => by simp [nestP]
  | f + 1, L, q => nestK_length (fun b => nestP_length f L b) _
theorem nestK_in {L : List Bx} {q : Bx} {nx : Bx → List Int} {n : Nat} (h : ∀ b, ∀ i ∈ nx b, 0 ≤ i ∧ i < (n : Int)) : ∀ k, k ≤ n → ∀ i ∈ nestK L q nx k, 0 ≤ i ∧ i < (n : Int)
  | 0, _, i, hi => by simp [nestK] at hi
  | k + 1, hk, i, hi => by
    unfold nestK at hi
    split at hi
    · rcases List.mem_cons.1 hi with rfl | hi
      · omega
      · exact h _ i hi
    · exact nestK_in h k (by omega) i hi

/-- the box into whose followers a row so far leads -/
def lastB (L : List Bx) (beg : List Int) : Bx := match beg.getLast? with | none => zBx | some i => L.getD i.toNat zBx
def betterL (a b : List Int) : List Int := if b.length < a.length then a else b
def nestMK (L : List Bx) (beg : List Int) (nm : List Int → List Int → List Int) (b0 : List Int) : Nat → List Int
  | 0 => b0
  | k + 1 => if intoP (lastB L beg) (L.getD k zBx) then nm (beg ++ [(k : Int)]) (nestMK L beg nm b0 k) else nestMK L beg nm b0 k
def nestM : Nat → List Bx → List Int → List Int → List Int
  | 0, _, beg, best => betterL beg best
  | f + 1, L, beg, best => nestMK L beg (nestM f L) (betterL beg best) L.length
theorem lastB_snoc (L : List Bx) (beg : List Int) (k : Nat) : lastB L (beg ++ [(k : Int)]) = L.getD k zBx := by simp [lastB]

theorem nestM_eq (L : List Bx) : ∀ (f : Nat) (beg best : List Int), nestM f L beg best = if best.length < beg.length + (nestP f L (lastB L beg)).length then beg ++ nestP f L (lastB L beg) else best
  | 0, beg, best => by simp [nestM, nestP, betterL]
  | f + 1, beg, best => by
    have key : ∀ k, nestMK L beg (nestM f L) (betterL beg best) k = if best.length < beg.length + (nestK L (lastB L beg) (nestP f L) k).length then beg ++ nestK L (lastB L beg) (nestP f L) k else best := by
      intro k
      induction k with
      | zero => simp [nestMK, nestK, betterL]
      | succ k ih =>
        by_cases hi : intoP (lastB L beg) (L.getD k zBx) = true
        · have e : nestMK L beg (nestM f L) (betterL beg best) (k + 1) = nestM f L (beg ++ [(k : Int)]) (nestMK L beg (nestM f L) (betterL beg best) k) := by rw [nestMK, if_pos hi]
          rw [e, nestM_eq L f, lastB_snoc, ih]
          generalize hr : nestP f L (L.getD k zBx) = r
          generalize hb : nestK L (lastB L beg) (nestP f L) k = p
          by_cases hl : p.length < r.length + 1
          · rw [nestK_more hi (by rw [hb, hr]; exact hl), hr]
            by_cases h1 : best.length < beg.length + p.length
            · rw [if_pos h1, if_pos (by simp; omega), if_pos (by simp; omega)]; simp
            · rw [if_neg h1]
              by_cases h2 : best.length < beg.length + (r.length + 1)
              · rw [if_pos (by simp; omega), if_pos (by simp; omega)]; simp
              · rw [if_neg (by simp; omega), if_neg (by simp; omega)]
          · rw [nestK_short (by rw [hb, hr]; exact hl), hb]
            by_cases h1 : best.length < beg.length + p.length
            · rw [if_pos h1, if_neg (by simp; omega)]
            · rw [if_neg h1, if_neg (by simp; omega)]
        · have hi' : intoP (lastB L beg) (L.getD k zBx) = false := by simpa using hi
          rw [nestMK, if_neg hi, nestK_no hi']
          exact ih
    exact key L.length
theorem nestM_start (f : Nat) (L : List Bx) : nestM f L [] [] = nestP f L zBx := by
  rw [nestM_eq]
  have e : lastB L [] = zBx := rfl
  rw [e]
  by_cases h : 0 < (nestP f L zBx).length
  · rw [if_pos (by simpa using h)]; rfl
  · rw [if_neg (by simpa using h)]
    cases hq : nestP f L zBx with
    | nil => rfl
    | cons a r => rw [hq] at h; simp at h

/-- all boxes of a list are good -/
def goodL (L : List Bx) : Bool := L.all fun b => boxB b.1 b.2.1 b.2.2
theorem goodL_at {L : List Bx} {k : Nat} (h : goodL L = true) (hk : k < L.length) : boxB (L[k]).1 (L[k]).2.1 (L[k]).2.2 = true := List.all_eq_true.1 h _ (List.getElem_mem hk)
def lnB (L : List Bx) : Bool := decide (L.length ≤ 10) && goodL L
def lnR (L : List Bx) : List Int := if lnB L then nestP 61 L zBx else []
theorem lnR_no {L : List Bx} (h : lnB L = false) : lnR L = [] := by simp [lnR, h]
theorem lnR_yes {L : List Bx} (h : lnB L = true) : lnR L = nestP 61 L zBx := by simp [lnR, h]
theorem length_lnR (L : List Bx) : (lnR L).length ≤ 61 := by
  unfold lnR
  split
  · exact nestP_length 61 L zBx
  · simp
theorem into_zero {b : Bx} (h : boxB b.1 b.2.1 b.2.2 = true) : intoP zBx b = true := by
  have := boxB_true h
  exact decide_eq_true ⟨show (0 : Int) < b.1 by omega, show (0 : Int) < b.2.1 by omega, show (0 : Int) < b.2.2 by omega⟩
theorem into_long {p q : Bx} (h : intoP p q = true) : p.1 < q.1 := by
  simp only [intoP, intoB, decide_eq_true_eq] at h
  exact h.1

end Go.Proofs.Ythbbddgjphdgjab
