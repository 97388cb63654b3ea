/-
  Words: rows of two numbers; a slice of slices grown by one row (as XMovesS has them, for seats without the chomps).
-/
import Derived.Test.YtcocdidkkcjbgaaDoorSS
namespace Go.Proofs.YtcocdidkkcjbgaaDoor
open Go.RowKit
set_option linter.unusedVariables false

/-- rows of two numbers -/
def prR (M : List (Int × Int)) : Nat → List Int := fun i => match M[i]? with | some p => [p.1, p.2] | none => []
theorem prR_at {M : List (Int × Int)} {i : Nat} (h : i < M.length) : prR M i = [(M[i]).1, (M[i]).2] := by simp [prR, h]
theorem prR_snoc {M : List (Int × Int)} {n : Nat} (hn : M.length = n) (p : Int × Int) (i : Nat) (hi : i < n + 1) : (if i = n then [p.1, p.2] else prR M i) = prR (M ++ [p]) i := by
  by_cases e : i = n
  · subst e
    subst hn
    rw [if_pos rfl]
    unfold prR
    simp
  · rw [if_neg e]
    unfold prR
    rw [List.getElem?_append_left (by omega)]
theorem length_prR (M : List (Int × Int)) (i : Nat) : (prR M i).length ≤ 2 := by
  unfold prR
  split <;> simp
theorem prR_take {M : List (Int × Int)} {k : Nat} (i : Nat) (hi : i < k) : prR (M.take k) i = prR M i := by
  unfold prR
  rw [List.getElem?_take_of_lt hi]

theorem OwnAC.push {w w' wz : World} {B n c0 c : Nat} {v' : Value} {Ad a : Option Addr} {A : Nat → Option Addr} {C : Nat → Nat} {R : Nat → List Int} {l : List Int} (h : OwnAC w B (.slice Ad n c0) n A C R) (hb : Below w.heap.size w wz) (hw : wz.ownsRow w.heap.size 3 1 (.slice a l.length c) l.length (intCells l)) (hBw : B ≤ w.heap.size)
    (hg : wz.grownBy w' (Value.slice Ad n c0).ownBlock) (ht : w'.ownsRow B 33 1 v' (n + 1) (ssCells A C R n ++ [.slice a l.length c])) : OwnSS w' B v' (n + 1) (fun i => if i = n then l else R i) := by
  refine OwnAC.snoc (w := wz) ⟨own_later h.top hb (Nat.le_refl _), fun i hi => own_later (h.row i hi) hb (Nat.le_refl _), h.apart⟩ (own_base hw hBw) (fun i hi => ?_) hg ht
  rcases hv : (Value.slice (A i) (R i).length (C i)).ownBlock with _ | g
  · exact .inl rfl
  · refine .inr fun e => ?_
    have x := (h.row i hi).lt g hv
    have y := hw.lt g e.symm
    omega

theorem ints_info : (Tryd.prog.info? 33).map (fun i => (i.zero, i.size, i.bytes)) = some (some (.slice none 0 0), 1, 24) := by kernel_rfl

theorem prR_6 (M : List (Int × Int)) (i : Nat) : (prR M i).length ≤ 6 := by have := length_prR M i; omega
end Go.Proofs.YtcocdidkkcjbgaaDoor
