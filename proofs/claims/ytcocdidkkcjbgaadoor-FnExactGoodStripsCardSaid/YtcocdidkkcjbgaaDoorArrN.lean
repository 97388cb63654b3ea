/-
  Words: arrays of 61 numbers in memory. Nothing of the program but their type is named here.
-/
import Derived.Test.YtcocdidkkcjbgaaDoorWords
import Derived.Laws.Rows
import Derived.Laws.Tables
namespace Go.Proofs.YtcocdidkkcjbgaaDoor
open Go.RowKit
set_option linter.unusedVariables false

def arrN (f : Nat → Int) : Array Value := Array.ofFn (n := 61) fun k => .int .i64 (f k.val)
theorem size_arrN (f : Nat → Int) : (arrN f).size = 61 := by simp [arrN]
theorem arrN_at (f : Nat → Int) {k : Nat} (h : k < 61) : (arrN f)[k]? = some (.int .i64 (f k)) := by
  unfold arrN
  rw [Array.getElem?_ofFn, dif_pos h]
theorem arrN_ext {f : Nat → Int} {a : Array Value} (hs : a.size = 61) (h : ∀ k, k < 61 → a[k]? = some (.int .i64 (f k))) : a = arrN f := by
  apply Array.ext_getElem?
  intro k
  by_cases hk : k < 61
  · rw [h k hk, arrN_at f hk]
  · rw [Array.getElem?_eq_none (by omega), Array.getElem?_eq_none (by rw [size_arrN]; omega)]
theorem arrN_congr {f g : Nat → Int} (h : ∀ k, k < 61 → f k = g k) : arrN f = arrN g := arrN_ext (size_arrN f) (fun k hk => by rw [arrN_at f hk, h k hk])
theorem arrN_set (f : Nat → Int) (k : Nat) (v : Int) : (arrN f).setIfInBounds k (.int .i64 v) = arrN (fun j => if j = k then v else f j) := by
  refine arrN_ext (by simp [size_arrN]) (fun j hj => ?_)
  rw [Array.getElem?_setIfInBounds]
  by_cases e : k = j
  · subst e
    rw [if_pos rfl, if_pos (by rw [size_arrN]; exact hj), if_pos rfl]
  · rw [if_neg e, arrN_at f hj, if_neg (fun h => e h.symm)]
theorem oneCell_arrN (f : Nat → Int) : (arrN f).all (·.oneCell') = true := by
  rw [Array.all_eq_true]
  intro i h
  have h2 : i < 61 := by rw [size_arrN] at h; exact h
  have e := arrN_at f h2
  rw [Array.getElem?_eq_getElem h] at e
  rw [Option.some.inj e]
  rfl
theorem zero_arrN : Array.replicate 61 (Value.int .i64 0) = arrN (fun _ => 0) := arrN_ext (by simp) (fun k hk => by simp [hk])
/-- block g is such an array -/
def RowN (w : World) (g : Nat) (f : Nat → Int) : Prop := w.heap[g]? = some (.cells (arrN f) 63 (0, 0))
theorem RowN.lt {w : World} {g : Nat} {f : Nat → Int} (h : RowN w g f) : g < w.heap.size := (Array.getElem?_eq_some_iff.1 h).1
theorem RowN.cell {w : World} {g k : Nat} {f : Nat → Int} (h : RowN w g f) (hk : k < 61) : w.cell? ⟨g, k, none⟩ = some (.int .i64 (f k)) := (cell_of_row w g k (arrN f) _ _ h).trans (arrN_at f hk)
theorem RowN.free {w : World} {g : Nat} {f : Nat → Int} (h : RowN w g f) (k : Nat) : w.frozen? ⟨g, k, none⟩ = false := by
  unfold RowN at h
  simp [World.frozen?, h]
theorem RowN.drew {w : World} {g : Nat} {f : Nat → Int} (h : RowN w g f) : RowN w.drew g f := h
theorem RowN.set {w : World} {g : Nat} {f : Nat → Int} (h : RowN w g f) (k : Nat) (v : Int) : RowN (w.setCell ⟨g, k, none⟩ (.int .i64 v)) g (fun j => if j = k then v else f j) := by
  unfold RowN at h ⊢
  rw [← arrN_set]
  simp [World.setCell, Array.getElem?_modify, h]
theorem RowN.other {w : World} {g q k : Nat} {f : Nat → Int} {v : Value} (h : RowN w g f) (hn : q ≠ g) : RowN (w.setCell ⟨q, k, none⟩ v) g f := by
  unfold RowN at h ⊢
  simp [World.setCell, Array.getElem?_modify, h, hn]
theorem RowN.new (w : World) (f : Nat → Int) : RowN (w.alloc (.cells (arrN f) 63)) w.heap.size f := by
  unfold RowN
  show (w.heap.push _)[w.heap.size]? = _
  simp
theorem RowN.alloc {w : World} {g : Nat} {f : Nat → Int} (h : RowN w g f) (ob : Obj) : RowN (w.alloc ob) g f := by
  have hl := h.lt
  unfold RowN at h ⊢
  show (w.heap.push ob)[g]? = _
  rw [Array.getElem?_push, if_neg (by omega)]
  exact h
theorem RowN.below {w w' : World} {g B : Nat} {f : Nat → Int} (h : RowN w g f) (hb : Below B w w') (hg : g < B) : RowN w' g f := (hb.block g hg).trans h
theorem RowN.congr {w : World} {g : Nat} {f f' : Nat → Int} (h : RowN w g f) (e : ∀ k, k < 61 → f k = f' k) : RowN w g f' := by
  unfold RowN at *
  rw [← arrN_congr e]
  exact h
theorem below_setRowN {B g : Nat} {a w : World} (h : Below B a w) (hg : B ≤ g) (cs : Array Value) : Below B a (w.setRow g cs) :=
  ⟨h.os, h.tape, h.output, by have := h.size; simpa [World.setRow] using this, fun b hb => by
    have e := h.block b hb
    rw [setRow_other w g b cs (by omega)]
    exact e⟩

end Go.Proofs.YtcocdidkkcjbgaaDoor
