/-
  Words: new cells are an owned row; an owned row behind an alloc. Nothing of the program is named here.
-/
import Derived.Test.YtghlgmbekgfmnabDoorWords
import Derived.OwnWalk
import Derived.Deep.AppendLies
namespace Go.Proofs.YtghlgmbekgfmnabDoor
open Go.RowKit
set_option linter.unusedVariables false

/-- new cells are an owned row -/
theorem own_new (w : World) (e : TypeId) (z n : Nat) (cs : Array Value) (h : cs.size = n * z) (hn : n ≤ 1000000) {B : Nat} (hB : B ≤ w.heap.size) :
    (w.alloc (.cells cs e)).ownsRow B e z (.slice (some ⟨w.heap.size, 0, none⟩) n n) n cs.toList :=
  ⟨by simp [h], .inr ⟨w.heap.size, n, cs, rfl, hB, heap_alloc_new w _, Nat.le_refl _, by simp only [maxLen]; omega, h, by rw [List.take_of_length_le (by simp [h])]⟩⟩
theorem own_alloc {w : World} {B e z n : Nat} {v : Value} {xs : List Value} (h : w.ownsRow B e z v n xs) (o : Obj) : (w.alloc o).ownsRow B e z v n xs := by
  refine h.kept (World.grownBy_alloc w o none) ?_
  rcases hv : v.ownBlock with _ | q
  · exact .inl rfl
  · exact .inr (by simp)
end Go.Proofs.YtghlgmbekgfmnabDoor
