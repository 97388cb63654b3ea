/-
  Words for plain breaks: the run that leads to single squares. Nothing of the program is named here.
-/
import Derived.Test.YtjfedmcejeeocaaWords
import Derived.Test.YtjfedmcejeeocaaLines
namespace Go.Proofs.Ytjfedmcejeeocaa
open Go.RowKit

abbrev Brk := Int × Bool × Int
/-- the pieces behind a plain break of piece k -/
def plainSet (l : List (Int × Int)) (k : Nat) (q : Int × Int) : List (Int × Int) := l.set k (part1 q.1 q.2 (decide (1 < q.1)) 1) ++ [part2 q.1 q.2 (decide (1 < q.1)) 1]
/-- the breaks from piece k on -/
def plainF : Nat → Nat → List (Int × Int) → List Brk
  | 0, _, _ => []
  | f + 1, k, l => if h : k < l.length then
      (if l[k] = (1, 1) then plainF f (k + 1) l else ((k : Int), decide (1 < (l[k]).1), (1 : Int)) :: plainF f k (plainSet l k l[k])) else []
def sumA : List (Int × Int) → Int
  | [] => 0
  | q :: r => q.1 * q.2 + sumA r
theorem sumA_append (l r : List (Int × Int)) : sumA (l ++ r) = sumA l + sumA r := by
  induction l with
  | nil => simp [sumA]
  | cons q s ih => simp [sumA, ih]; omega
theorem sumA_set (l : List (Int × Int)) (k : Nat) (hk : k < l.length) (q : Int × Int) : sumA (l.set k q) = sumA l - (l[k]).1 * (l[k]).2 + q.1 * q.2 := by
  induction l generalizing k with
  | nil => simp at hk
  | cons p r ih =>
    cases k with
    | zero => simp [sumA]; omega
    | succ k =>
      have h := ih k (by simpa using hk)
      simp only [List.set_cons_succ, sumA, List.getElem_cons_succ, h]
      omega
theorem sumA_len (l : List (Int × Int)) (h : ∀ q ∈ l, barB q.1 q.2 = true) : (l.length : Int) ≤ sumA l := by
  induction l with
  | nil => simp [sumA]
  | cons q r ih =>
    have h1 := ih (fun p hp => h p (by simp [hp]))
    obtain ⟨a, _, b, _⟩ := barB_true (h q (by simp))
    have : 1 * 1 ≤ q.1 * q.2 := Int.mul_le_mul a b (by omega) (by omega)
    simp only [List.length_cons, sumA]
    omega
theorem plain_can {q : Int × Int} (hB : barB q.1 q.2 = true) (hn : q ≠ (1, 1)) : canB q.1 q.2 (decide (1 < q.1)) 1 = true := by
  obtain ⟨x, y⟩ := q
  obtain ⟨a1, a2, b1, b2⟩ := barB_true hB
  simp only at a1 a2 b1 b2
  by_cases h : 1 < x
  · simp [canB, inB, h]; omega
  · have hx : x = 1 := by omega
    subst hx
    have hy : y ≠ 1 := fun e => hn (by rw [e])
    simp [canB, inB]; omega
theorem plain_parts {q : Int × Int} (hB : barB q.1 q.2 = true) (hn : q ≠ (1, 1)) : barB (part1 q.1 q.2 (decide (1 < q.1)) 1).1 (part1 q.1 q.2 (decide (1 < q.1)) 1).2 = true ∧ barB (part2 q.1 q.2 (decide (1 < q.1)) 1).1 (part2 q.1 q.2 (decide (1 < q.1)) 1).2 = true ∧
    (part1 q.1 q.2 (decide (1 < q.1)) 1).1 * (part1 q.1 q.2 (decide (1 < q.1)) 1).2 + (part2 q.1 q.2 (decide (1 < q.1)) 1).1 * (part2 q.1 q.2 (decide (1 < q.1)) 1).2 = q.1 * q.2 := by
  obtain ⟨x, y⟩ := q
  obtain ⟨a1, a2, b1, b2⟩ := barB_true hB
  simp only at a1 a2 b1 b2
  by_cases h : 1 < x
  · simp only [h, decide_true, part1, part2, barB, if_true]
    refine ⟨by simp; omega, by simp; omega, ?_⟩
    rw [Int.sub_mul]; omega
  · have hx : x = 1 := by omega
    subst hx
    have hy : y ≠ 1 := fun e => hn (by rw [e])
    simp [part1, part2, barB]; omega
/-- what holds of the pieces all along: bars, of all squares together -/
structure PlainOk (S : Int) (l : List (Int × Int)) : Prop where
  bars : ∀ q ∈ l, barB q.1 q.2 = true
  sum : sumA l = S
theorem PlainOk.len {S : Int} {l : List (Int × Int)} (h : PlainOk S l) : (l.length : Int) ≤ S := by have := sumA_len l h.bars; rw [h.sum] at this; exact this
theorem PlainOk.step {S : Int} {l : List (Int × Int)} (h : PlainOk S l) {k : Nat} (hk : k < l.length) (hn : l[k] ≠ (1, 1)) : PlainOk S (plainSet l k l[k]) := by
  obtain ⟨h1, h2, h3⟩ := plain_parts (h.bars _ (List.getElem_mem hk)) hn
  refine ⟨?_, ?_⟩
  · intro q hq
    rcases List.mem_append.1 hq with h' | h'
    · rcases List.mem_or_eq_of_mem_set h' with h' | h'
      · exact h.bars q h'
      · rw [h']; exact h1
    · rw [List.mem_singleton.1 h']; exact h2
  · unfold plainSet
    rw [sumA_append, sumA_set l k hk, h.sum]
    simp only [sumA]
    omega
theorem length_plainSet (l : List (Int × Int)) (k : Nat) (q : Int × Int) : (plainSet l k q).length = l.length + 1 := by simp [plainSet]
theorem plainF_skip {f k : Nat} {l : List (Int × Int)} (h : k < l.length) (h1 : l[k] = (1, 1)) : plainF (f + 1) k l = plainF f (k + 1) l := by
  rw [plainF, dif_pos h, if_pos h1]
theorem plainF_break {f k : Nat} {l : List (Int × Int)} (h : k < l.length) (h1 : l[k] ≠ (1, 1)) : plainF (f + 1) k l = ((k : Int), decide (1 < (l[k]).1), (1 : Int)) :: plainF f k (plainSet l k l[k]) := by
  rw [plainF, dif_pos h, if_neg h1]
theorem plainF_end {f k : Nat} {l : List (Int × Int)} (h : ¬ k < l.length) : plainF f k l = [] := by
  cases f with
  | zero => rfl
  | succ f => rw [plainF, dif_neg h]
/-- the plain breaks of a bar -/
def plainR (x y : Int) : List Brk := if barB x y then plainF (2 * (x * y).toNat) 0 [(x, y)] else []

end Go.Proofs.Ytjfedmcejeeocaa
