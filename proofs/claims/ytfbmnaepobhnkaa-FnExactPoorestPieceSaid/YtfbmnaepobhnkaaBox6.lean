/-
  Words: arrays of six numbers in memory; how the program puts shares together.
-/
import Derived.Test.YtfbmnaepobhnkaaMapP
import Derived.Test.YtfbmnaepobhnkaaChg
import Derived.Test.YtfbmnaepobhnkaaBrkS
import Derived.OwnWalk
namespace Go.Proofs.Ytfbmnaepobhnkaa
open Go.RowKit
set_option linter.unusedVariables false

abbrev cells6 (f : Nat → Int) : List Value := [.int .i64 (f 0), .int .i64 (f 1), .int .i64 (f 2), .int .i64 (f 3), .int .i64 (f 4), .int .i64 (f 5)]
theorem cells6_at (f : Nat → Int) {k : Nat} (h : k < 6) : (cells6 f)[k]? = some (.int .i64 (f k)) := by
  rcases (show k = 0 ∨ k = 1 ∨ k = 2 ∨ k = 3 ∨ k = 4 ∨ k = 5 by omega) with rfl | rfl | rfl | rfl | rfl | rfl <;> rfl
theorem cells6_set (f : Nat → Int) {k : Nat} (h : k < 6) (v : Int) : (cells6 f).set k (.int .i64 v) = cells6 (fun j => if j = k then v else f j) := by
  rcases (show k = 0 ∨ k = 1 ∨ k = 2 ∨ k = 3 ∨ k = 4 ∨ k = 5 by omega) with rfl | rfl | rfl | rfl | rfl | rfl <;> simp
theorem cells6_congr {f g : Nat → Int} (h : ∀ k, k < 6 → f k = g k) : cells6 f = cells6 g := by
  simp only [cells6, h 0 (by omega), h 1 (by omega), h 2 (by omega), h 3 (by omega), h 4 (by omega), h 5 (by omega)]
theorem arr6_congr {f g : Nat → Int} (h : ∀ k, k < 6 → f k = g k) : arr6 f = arr6 g := by
  simp only [arr6, h 0 (by omega), h 1 (by omega), h 2 (by omega), h 3 (by omega), h 4 (by omega), h 5 (by omega)]
theorem own_new6 (w : World) (e : TypeId) (z n : Nat) (cs : Array Value) (h : cs.size = n * z) (hn : n ≤ 1000000) {B : Nat} (hB : B ≤ w.heap.size) :
    (w.alloc (.cells cs e)).ownsRow B e z (.slice (some ⟨w.heap.size, 0, none⟩) n n) n cs.toList :=
  ⟨by simp [h], .inr ⟨w.heap.size, n, cs, rfl, hB, by simp only [World.alloc, Array.getElem?_push_size], Nat.le_refl _, by simp only [maxLen]; omega, h, by rw [List.take_of_length_le (by simp [h])]⟩⟩
theorem own_alloc6 {w : World} {B e z n : Nat} {v : Value} {xs : List Value} (h : w.ownsRow B e z v n xs) (o : Obj) : (w.alloc o).ownsRow B e z v n xs := by
  refine h.kept (World.grownBy_alloc w o none) ?_
  rcases hv : v.ownBlock with _ | q
  · exact .inl rfl
  · exact .inr (by simp)
/-- block g is an array's box -/
def BoxS (w : World) (g : Nat) (f : Nat → Int) : Prop := w.ownsRow 0 72 6 (.slice (some ⟨g, 0, none⟩) 1 1) 1 (cells6 f)
theorem BoxS.cell {w : World} {g : Nat} {f : Nat → Int} (h : BoxS w g f) {k : Nat} (hk : k < 6) : w.cell? ⟨g, k, none⟩ = some (.int .i64 (f k)) := by
  rw [World.ownsRow.cellAt h k (by omega), cells6_at f hk]
theorem BoxS.frozen {w : World} {g : Nat} {f : Nat → Int} (h : BoxS w g f) (k : Nat) : w.frozen? ⟨g, k, none⟩ = false := World.ownsRow.frozenAt h k
theorem BoxS.lt {w : World} {g : Nat} {f : Nat → Int} (h : BoxS w g f) : g < w.heap.size := (World.ownsRow.lt h g rfl).2
theorem BoxS.new (w : World) (f : Nat → Int) : BoxS (w.alloc (.cells #[.int .i64 (f 0), .int .i64 (f 1), .int .i64 (f 2), .int .i64 (f 3), .int .i64 (f 4), .int .i64 (f 5)] 72)) w.heap.size f :=
  own_new6 w 72 6 1 #[.int .i64 (f 0), .int .i64 (f 1), .int .i64 (f 2), .int .i64 (f 3), .int .i64 (f 4), .int .i64 (f 5)] rfl (by omega) (Nat.zero_le _)
theorem BoxS.alloc {w : World} {g : Nat} {f : Nat → Int} (h : BoxS w g f) (o : Obj) : BoxS (w.alloc o) g f := own_alloc6 h o
theorem BoxS.below {w w' : World} {g B : Nat} {f : Nat → Int} (h : BoxS w g f) (hb : Below B w w') (hB : w.heap.size ≤ B) : BoxS w' g f := own_later h hb hB
theorem BoxS.chg {K : Nat → Prop} {w w' : World} {g : Nat} {f : Nat → Int} (h : BoxS w g f) (hc : Chg K w w') (hg : ¬ K g) : BoxS w' g f := hc.own h (fun q hq => by have e : some g = some q := hq; cases e; exact hg)
theorem BoxS.drew {w : World} {g : Nat} {f : Nat → Int} (h : BoxS w g f) : BoxS w.drew g f := h
theorem BoxS.set {w : World} {g k : Nat} {f : Nat → Int} (h : BoxS w g f) (hk : k < 6) (v : Int) : BoxS (w.setCell ⟨g, k, none⟩ (.int .i64 v)) g (fun j => if j = k then v else f j) ∧ w.grownBy (w.setCell ⟨g, k, none⟩ (.int .i64 v)) (some g) := by
  have st := World.ownsRow.stored h k (.int .i64 v)
  rw [cells6_set f hk] at st
  exact st
theorem BoxS.congr {w : World} {g : Nat} {f f' : Nat → Int} (h : BoxS w g f) (hf : ∀ k, k < 6 → f k = f' k) : BoxS w g f' := by
  unfold BoxS at *
  rw [← cells6_congr hf]
  exact h

/-- the shares in round i, when j numbers of the other part are done -/
def stI (F O m : Nat → Int) (i j t : Nat) : Int := combP F O t (if i + 1 ≤ t ∧ t ≤ i + j then i else min (i - 1) (t - 1)) (m t)
theorem stI_start (F O m : Nat → Int) (t : Nat) : stI F O m 1 0 t = m t := by
  unfold stI
  rw [if_neg (by omega), show min (1 - 1) (t - 1) = 0 by omega]
  rfl
theorem stI_step (F O m : Nat → Int) {i j : Nat} (hi : 1 ≤ i) (t : Nat) : (if t = i + (j + 1) then max (stI F O m i j (i + (j + 1))) (min (F i) (O (j + 1))) else stI F O m i j t) = stI F O m i (j + 1) t := by
  unfold stI
  by_cases h : t = i + (j + 1)
  · subst h
    rw [if_pos rfl, if_neg (by omega), if_pos (by omega)]
    obtain ⟨p, rfl⟩ : ∃ p, i = p + 1 := ⟨i - 1, by omega⟩
    rw [show min (p + 1 - 1) (p + 1 + (j + 1) - 1) = p by omega]
    simp only [combP]
    rw [show p + 1 + (j + 1) - (p + 1) = j + 1 by omega]
  · rw [if_neg h]
    by_cases h2 : i + 1 ≤ t ∧ t ≤ i + j
    · rw [if_pos h2, if_pos (by omega)]
    · rw [if_neg h2, if_neg (by omega)]
theorem stI_next (F O m : Nat → Int) {i j t : Nat} (hi : 1 ≤ i) (hj : i + j = 5) (ht : t < 6) : stI F O m i j t = stI F O m (i + 1) 0 t := by
  unfold stI
  rw [if_neg (by omega : ¬ (i + 1 + 1 ≤ t ∧ t ≤ i + 1 + 0))]
  by_cases h2 : i + 1 ≤ t ∧ t ≤ i + j
  · rw [if_pos h2, show min (i + 1 - 1) (t - 1) = i by omega]
  · rw [if_neg h2, show min (i + 1 - 1) (t - 1) = min (i - 1) (t - 1) by omega]
theorem stI_end (F O m : Nat → Int) {t : Nat} (ht : t < 6) : stI F O m 5 0 t = combP F O t (t - 1) (m t) := by
  unfold stI
  rw [if_neg (by omega), show min (5 - 1) (t - 1) = t - 1 by omega]

end Go.Proofs.Ytfbmnaepobhnkaa
