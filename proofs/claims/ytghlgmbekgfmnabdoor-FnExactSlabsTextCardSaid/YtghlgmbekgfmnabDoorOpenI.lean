/-
  Words and contracts: a slice of numbers that came in, opened; the laws' copy of a slice of numbers.
-/
import Derived.Test.YtghlgmbekgfmnabDoorIKit
namespace Go.Proofs.YtghlgmbekgfmnabDoor
open Go.ChangeShapes Go.WideShapes Go.ChangeAt Go.RowKit Go.Joins Go.Deep

theorem addr_add (b o j : Nat) : (⟨b, o, none⟩ : Addr).add j = ⟨b, o + j, none⟩ := by unfold Addr.add; split <;> simp_all

section
variable {H : Type} {enc : TypeId × Value → H} {P : Program} {w : World} {base : Nat} {spare : Nat → Bool} {held : Bool}
/-- the cells of a slice of numbers, off what 'open_ints' says -/
theorem rd_ints {a : Addr} {n : Nat} {zs : List Int} (hz : n ≤ zs.length) (hc : ∀ i, i < zs.length → w.cell? (a.add i) = some (.int .i64 (zs.getD i 0))) : Rd w 1 (some a) n (intCells (zs.take n)) := by
  refine ⟨by simp [intCells]; omega, fun h0 => ?_⟩
  have z0 := hc 0 (by omega)
  have hs := World.cell?_spot z0
  obtain ⟨b, o, sp⟩ := a
  have hsp : sp = none := by simpa [Addr.add] using hs
  subst hsp
  refine ⟨b, o, rfl, World.block_lt_of_cell? w _ (by simpa [Addr.add] using z0), fun j u hu => ?_⟩
  have hj : j < n := by have := (List.getElem?_eq_some_iff.1 hu).1; simp [intCells] at this; omega
  have q := hc j (by omega)
  rw [addr_add] at q
  rw [q, ← hu]
  simp [intCells, hj, List.getD, List.getElem?_eq_getElem (show j < zs.length by omega)]

theorem open_intL {t e : TypeId} {A : Option Addr} {n c : Nat} {d : DataW H} {ps : List MemPlace} (ht : P.underlying t = some (.slice e)) (he : P.underlying e = some (.int .i64)) (hc : P.cellsOf e = 1)
    (h : DataW.Trod enc P w base spare held t (.slice A n c) d ps) : ∃ xs : List Int, Rd w 1 A n (intCells xs) ∧ (∀ z ∈ xs, (Lit.int .i64 z).wf = true) ∧ n ≤ 9223372036854775807 := by
  obtain ⟨fuel, hf⟩ := h
  rcases Go.ChangeShapes.open_ints ht he hc hf with ⟨hcs, _⟩ | ⟨a, len, cap, zs, hcs, _, hl, hcm, hzl, _, hcell, hwf⟩
  · simp [Value.cells] at hcs
    obtain ⟨rfl, rfl, rfl⟩ := hcs
    exact ⟨[], Rd.nil _ _, by simp, by omega⟩
  · simp [Value.cells] at hcs
    obtain ⟨rfl, rfl, rfl⟩ := hcs
    have hlm : n ≤ zs.length := by rw [hzl]; split <;> omega
    unfold maxLen at hcm
    exact ⟨zs.take n, rd_ints hlm hcell, fun z hz => hwf z (List.mem_of_mem_take hz), by omega⟩
end


end Go.Proofs.YtghlgmbekgfmnabDoor
