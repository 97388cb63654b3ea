/-
  Words: what may have changed between two worlds.
-/
import Derived.Test.YtghlgmbekgfmnaaWords
namespace Go.Proofs.Ytghlgmbekgfmnaa
open Go.RowKit
set_option linter.unusedVariables false

/-- only the blocks K of the old ones may have changed -/
structure Chg (K : Nat → Prop) (w w' : World) : Prop where
  os : w'.os = w.os
  tape : w'.tape = w.tape
  output : w'.output = w.output
  size : w.heap.size ≤ w'.heap.size
  block : ∀ i, i < w.heap.size → ¬ K i → w'.heap[i]? = w.heap[i]?
theorem Chg.refl (K : Nat → Prop) (w : World) : Chg K w w := ⟨rfl, rfl, rfl, Nat.le_refl _, fun _ _ _ => rfl⟩
theorem Chg.trans {K : Nat → Prop} {a b c : World} (h : Chg K a b) (k : Chg K b c) : Chg K a c :=
  ⟨k.os.trans h.os, k.tape.trans h.tape, k.output.trans h.output, Nat.le_trans h.size k.size, fun i hi hk => (k.block i (Nat.lt_of_lt_of_le hi h.size) hk).trans (h.block i hi hk)⟩
theorem Chg.of_below {K : Nat → Prop} {B : Nat} {w w' : World} (h : Below B w w') (hB : w.heap.size ≤ B) : Chg K w w' := ⟨h.os, h.tape, h.output, h.size, fun i hi _ => h.block i (by omega)⟩
theorem Chg.of_grown {K : Nat → Prop} {w w' : World} {r : Option Nat} (h : w.grownBy w' r) (hr : ∀ g, r = some g → K g) : Chg K w w' :=
  ⟨h.os, h.tape, h.output, h.size, fun i hi hk => h.block i hi (fun e => hk (hr i e.symm))⟩
/-- growth beside a row that is newer than base -/
theorem Chg.of_row {K : Nat → Prop} {a w w' : World} {r : Option Nat} (k : Chg K a w) (h : w.grownBy w' r) (hr : ∀ g, r = some g → a.heap.size ≤ g) : Chg K a w' :=
  ⟨h.os.trans k.os, h.tape.trans k.tape, h.output.trans k.output, Nat.le_trans k.size h.size, fun i hi hk => (h.block i (Nat.lt_of_lt_of_le hi k.size) (fun e => by have := hr i e.symm; omega)).trans (k.block i hi hk)⟩
theorem Chg.own {K : Nat → Prop} {w w' : World} (h : Chg K w w') {B e z n : Nat} {v : Value} {xs : List Value} (ho : w.ownsRow B e z v n xs) (hv : ∀ g, v.ownBlock = some g → ¬ K g) : w'.ownsRow B e z v n xs := by
  refine ⟨ho.1, ?_⟩
  rcases ho.2 with h0 | ⟨g, cap, cur, rfl, hb', hg, rest⟩
  · exact .inl h0
  · exact .inr ⟨g, cap, cur, rfl, hb', (h.block g (Array.getElem?_eq_some_iff.1 hg).1 (hv g rfl)).trans hg, rest⟩
theorem Chg.cell {K : Nat → Prop} {w w' : World} (h : Chg K w w') {a : Addr} {v : Value} (hc : w.cell? a = some v) (ha : ¬ K a.block) : w'.cell? a = some v :=
  (World.cell?_of_block (h.block a.block (World.block_lt_of_cell? w _ hc) ha)).trans hc
/-- nothing old has changed where K are newer -/
theorem Chg.below {K : Nat → Prop} {a w w' : World} (h : Chg K w w') (hb : Below a.heap.size a w) (hK : ∀ i, K i → a.heap.size ≤ i) : Below a.heap.size a w' :=
  ⟨h.os.trans hb.os, h.tape.trans hb.tape, h.output.trans hb.output, Nat.le_trans hb.size h.size, fun i hi => (h.block i (Nat.lt_of_lt_of_le hi hb.size) (fun e => by have := hK i e; omega)).trans (hb.block i hi)⟩

theorem Chg.rd {K : Nat → Prop} {w w' : World} (h : Chg K w w') {z n : Nat} {A : Option Addr} {xs : List Value} (hr : Rd w z A n xs) (hv : ∀ b o, A = some ⟨b, o, none⟩ → ¬ K b) : Rd w' z A n xs := by
  refine ⟨hr.1, fun hn => ?_⟩
  obtain ⟨b, o, rfl, hb, hc⟩ := hr.2 hn
  exact ⟨b, o, rfl, Nat.lt_of_lt_of_le hb h.size, fun j u hj => h.cell (hc j u hj) (hv b o rfl)⟩

end Go.Proofs.Ytghlgmbekgfmnaa
