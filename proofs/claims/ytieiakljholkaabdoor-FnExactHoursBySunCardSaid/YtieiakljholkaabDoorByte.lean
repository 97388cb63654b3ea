/-
  Rows of bytes that a call owns, and the text out of them.
-/
import Derived.Test.YtieiakljholkaabDoorStrs
import Derived.Laws.IdiomStrings
import Derived.Lib.BufferWrite
import Derived.Lib.BufferRead
namespace Go.Proofs.YtieiakljholkaabDoor
open Go.RowKit
set_option linter.unusedVariables false

def byteCells (l : List UInt8) : List Value := l.map fun b => .int .u8 b.toNat
theorem length_byteCells (l : List UInt8) : (byteCells l).length = l.length := by simp [byteCells]
theorem byteCells_append (l r : List UInt8) : byteCells (l ++ r) = byteCells l ++ byteCells r := by simp [byteCells]
theorem byte_info : (Tryd.prog.info? 5).map (fun i => (i.zero, i.size, i.bytes)) = some (some (.int .u8 0), 1, 1) := by kernel_rfl
/-- a text out of a row of bytes that the call owns -/
theorem run_string_own {w : World} {B n c : Nat} {A : Option Addr} {l : List UInt8} (ho : w.ownsRow B 5 1 (.slice A n c) n (byteCells l)) (hn : 0 < n) :
    (convert 78 9 (.slice A n c)).run Tryd.prog w = .ok (.string ⟨l.toArray⟩) w := by
  obtain ⟨g, rfl, _, _⟩ := own_at ho hn
  have hl : l.length = n := by have := ho.1; rw [length_byteCells] at this; omega
  subst hl
  refine run_convert_bytes_back (P := Tryd.prog) w 78 9 5 ⟨g, 0, none⟩ c l Tryd.underlying78 Tryd.underlying5 Tryd.underlying9 (fun j hj => ?_)
  have q := ho.cellAt j (by omega)
  have e : (⟨g, 0, none⟩ : Addr).add j = ⟨g, j, none⟩ := by unfold Addr.add; split <;> simp_all
  rw [e, q]
  simp [byteCells, hj]

theorem byte_oneCell (l : List UInt8) : ∀ u ∈ byteCells l, u.oneCell' = true := by
  intro u hu; simp [byteCells] at hu; obtain ⟨b, _, rfl⟩ := hu; rfl
theorem run_string_any {w : World} {B n c : Nat} {A : Option Addr} {l : List UInt8} (ho : w.ownsRow B 5 1 (.slice A n c) n (byteCells l)) :
    (convert 78 9 (.slice A n c)).run Tryd.prog w = .ok (.string ⟨l.toArray⟩) w := by
  by_cases h : 0 < n
  · exact run_string_own ho h
  · have hl : l.length = n := by have := ho.1; rw [length_byteCells] at this; omega
    have hn : n = 0 := by omega
    subst hn
    have hl0 : l = [] := List.eq_nil_of_length_eq_zero hl
    subst hl0
    rcases ho.2 with ⟨e, _⟩ | ⟨g, cap, cur, e, _⟩
    · simp only [Value.slice.injEq] at e
      obtain ⟨rfl, _, rfl⟩ := e
      exact Lib.run_convert_nil_bytes w _ _ _ 0 Tryd.underlying78 Tryd.underlying5 Tryd.underlying9
    · simp only [Value.slice.injEq] at e
      obtain ⟨rfl, _, rfl⟩ := e
      exact run_convert_bytes_back (P := Tryd.prog) w 78 9 5 ⟨g, 0, none⟩ c [] Tryd.underlying78 Tryd.underlying5 Tryd.underlying9 (fun j hj => absurd hj (by simp))
end Go.Proofs.YtieiakljholkaabDoor
