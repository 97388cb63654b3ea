/-
  A drawn region of a law that copies, calls and keeps the answer: its tail stated once. Nothing of the program's behaviour is said here.
-/
import Derived.Test.YtghlgmbekgfmnaaPzE
namespace Go.Proofs.Ytghlgmbekgfmnaa
open Go.RowKit
set_option linter.unusedVariables false
theorem tail_once {P : Program} {c : Code} {Q : Exit → Act → World → Prop} {a : Act} {w : World} {α : Type} (F : α → Array Value → Array Value) (R : α → World → Prop)
    (h1 : ∀ x w', R x w' → Q .normal ⟨F x a.tmps, a.defers⟩ w') (h2 : (∀ x w', R x w' → Q .normal ⟨F x a.tmps, a.defers⟩ w') → c.wp P Q a w) : c.wp P Q a w := h2 h1
theorem bcall2 {a b c : World} (k : Below b.heap.size b c) (h : Below a.heap.size a b) : Below a.heap.size a c := bcall h.size k h
/-- what such a region leaves -/
def RegR (wp : World) (e : TypeId) (xs : List Value) (wb : World) (A : Option Addr) (n c : Nat) (W : World) : Prop :=
  Below wp.heap.size wp W ∧ W.cell? ⟨wb.heap.size, 0, none⟩ = some (.slice A n c) ∧ wp.heap.size ≤ wb.heap.size ∧ wb.heap.size < W.heap.size ∧ W.ownsRow wp.heap.size e 3 (.slice A n c) n xs ∧ ∀ q, (Value.slice A n c).ownBlock = some q → q ≠ wb.heap.size
theorem regR_set {wp wb wf : World} {e : TypeId} {xs : List Value} {A : Option Addr} {n c B : Nat} {u : Value} (hb : Below wp.heap.size wp wf) (h1 : wp.heap.size ≤ wb.heap.size) (h2 : wb.heap.size < B) (h4 : wb.heap.size < wf.heap.size) (hc : wf.cell? ⟨wb.heap.size, 0, none⟩ = some u) (ho : wf.ownsRow B e 3 (.slice A n c) n xs) :
    RegR wp e xs wb A n c (wf.setCell ⟨wb.heap.size, 0, none⟩ (.slice A n c)) := by
  have hne : ∀ q, (Value.slice A n c).ownBlock = some q → q ≠ wb.heap.size := fun q hq => by have := (ho.lt q hq).1; omega
  exact ⟨bset (p := ⟨wb.heap.size, 0, none⟩) h1 _ hb, World.cell?_setCell_same _ _ _ hc, h1, by simpa using h4, own_base (own_setO ho _ (fun e => hne _ e rfl)) (by omega), hne⟩
theorem regR_new {wp wf : World} {e T : TypeId} {xs : List Value} {A : Option Addr} {n c B : Nat} (hb : Below wp.heap.size wp wf) (h3 : wp.heap.size ≤ B) (ho : wf.ownsRow B e 3 (.slice A n c) n xs) :
    RegR wp e xs wf A n c (wf.alloc (.cells #[.slice A n c] T)) :=
  ⟨hb.alloc hb.size _, by simp [go_sem], hb.size, by simp, own_base (own_alloc ho _) h3, fun q hq => by have := (ho.lt q hq).2; omega⟩
theorem regR_newS {wp wf : World} {e T : TypeId} {xs : List Value} {A : Option Addr} {n c B : Nat} {u : Value} (hb : Below wp.heap.size wp wf) (h3 : wp.heap.size ≤ B) (ho : wf.ownsRow B e 3 (.slice A n c) n xs) (hu : u = .slice none 0 0) :
    RegR wp e xs wf A n c ((wf.alloc (.cells #[u] T)).setCell ⟨wf.heap.size, 0, none⟩ (.slice A n c)) := by
  have hne : ∀ q, (Value.slice A n c).ownBlock = some q → q ≠ wf.heap.size := fun q hq => by have := (ho.lt q hq).2; omega
  exact ⟨bset (p := ⟨wf.heap.size, 0, none⟩) hb.size _ (hb.alloc hb.size _), World.cell?_setCell_same _ _ _ (show _ = some u by simp [go_sem]), hb.size, by simp, own_base (own_setO (own_alloc ho _) _ (fun e => hne _ e rfl)) h3, hne⟩
end Go.Proofs.Ytghlgmbekgfmnaa
