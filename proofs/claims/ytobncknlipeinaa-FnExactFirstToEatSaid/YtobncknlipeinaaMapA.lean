/-
  Words: reading an element of a map that is an array of numbers. Nothing of the program is named here.
-/
import Derived.Test.YtobncknlipeinaaWords
import Derived.Maps.OwnOps
import Derived.Maps.OwnSet
import Derived.Maps.Views
import Derived.DeepKeys4
namespace Go.Proofs.Ytobncknlipeinaa
open Go.RowKit Go.Maps
set_option linter.unusedVariables false

def int64? : Value → Option Int
  | .int .i64 a => some a
  | _ => none
def ints? : List Value → Option (List Int)
  | [] => some []
  | v :: r => match int64? v, ints? r with
    | some a, some l => some (a :: l)
    | _, _ => none
theorem int64?_inv {v : Value} {a : Int} (h : int64? v = some a) : v = .int .i64 a := by
  unfold int64? at h
  split at h
  · cases h; rfl
  · cases h
theorem ints?_inv : ∀ (cs : List Value) (l : List Int), ints? cs = some l → cs = l.map (Value.int .i64)
  | [], l, h => by simp [ints?] at h; subst h; rfl
  | v :: r, l, h => by
    unfold ints? at h
    split at h
    · rename_i a l' h1 h2
      cases h
      rw [int64?_inv h1, ints?_inv r l' h2]
      rfl
    · cases h
def arrElem : Value → Option (DataW Unit × List MemPlace)
  | .agg cs => (ints? cs.toList).map fun l => (.agg (l.map fun a => .lit (.int .i64 a)), [])
  | _ => none
theorem lits_inj : ∀ (l l' : List Int), (l.map fun a => (DataW.lit (.int .i64 a) : DataW Unit)) = l'.map (fun a => DataW.lit (.int .i64 a)) → l = l'
  | [], [], _ => rfl
  | [], _ :: _, h => by simp at h
  | _ :: _, [], h => by simp at h
  | a :: l, b :: l', h => by
    simp only [List.map_cons, List.cons.injEq, DataW.lit.injEq, Lit.int.injEq, true_and] at h
    rw [h.1, lits_inj l l' h.2]
end Go.Proofs.Ytobncknlipeinaa
