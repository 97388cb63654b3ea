/-
  A puzzle that came in, opened to its clues' cells. Nothing of the program is named here.
-/
import Derived.Test.YtghlgmbekgfmnabDoorBoxW
namespace Go.Proofs.YtghlgmbekgfmnabDoor
open Go.ChangeShapes Go.WideShapes Go.ChangeAt Go.RowKit Go.Joins Go.Deep

section
variable {H : Type} {enc : TypeId × Value → H} {P : Program} {w : World} {base : Nat} {spare : Nat → Bool} {held : Bool}
theorem arr1 {α : Type} {cs : Array α} (h : cs.size = 1) : ∃ c0, cs = #[c0] := by
  obtain ⟨l⟩ := cs
  match l, h with
  | [c0], _ => exact ⟨c0, rfl⟩
theorem open_puz {r : Reach} {b0 : Nat} {t ts e ti : TypeId} {g0 f0 f1 f2 : Field} {v : Value} {d : DataW H} {ps : List MemPlace} (hs : P.underlying t = some (.struct #[g0])) (hC1 : P.cellsOf t = 1) (gt : g0.type = ts) (go : g0.offset = 0) (hCs : P.cellsOf ts = 1)
    (ht : P.underlying ts = some (.slice e)) (he : P.underlying e = some (.struct #[f0, f1, f2])) (hC : P.cellsOf e = 3)
    (t0 : f0.type = ti) (t1 : f1.type = ti) (t2 : f2.type = ti) (o0 : f0.offset = 0) (o1 : f1.offset = 1) (o2 : f2.offset = 2) (hi : P.underlying ti = some (.int .i64)) (ci : P.cellsOf ti = 1)
    (hv : Value.okWide P w r b0 t v) (h : DataW.Trod enc P w base spare held t v d ps) : ∃ (A : Option Addr) (n c : Nat) (xs : List (Int × Int × Int)), v = .agg #[.slice A n c] ∧ Rd w 3 A n (boxCells xs) ∧ n ≤ maxLen := by
  obtain ⟨cs, rfl, hsz⟩ := okWide_struct hs hv
  obtain ⟨c0, rfl⟩ := arr1 (hsz.trans hC1)
  obtain ⟨fuel, hf⟩ := h
  obtain ⟨y0, k, hx, _, h0⟩ := trod_struct1 hs hf
  rw [gt, go, hCs] at h0
  replace h0 : DataW.trod enc P w base spare held k ts [c0] = some y0 := by simpa [Value.cells] using h0
  rcases open_slice ht h0 with ⟨hcs, _⟩ | ⟨a, len, cap, m, k2, D, Pl, hcs, _, q1, q2, _⟩
  · simp only [List.cons.injEq, and_true] at hcs
    subst hcs
    obtain ⟨xs, hr⟩ := open_boxes (enc := enc) (base := base) (spare := spare) (held := held) (d := y0.1) (ps := y0.2) ht he hC t0 t1 t2 o0 o1 o2 hi ci ⟨k, by simpa [Value.cells] using h0⟩
    exact ⟨none, 0, 0, xs, rfl, hr, Nat.zero_le _⟩
  · simp only [List.cons.injEq, and_true] at hcs
    subst hcs
    obtain ⟨xs, hr⟩ := open_boxes (enc := enc) (base := base) (spare := spare) (held := held) (d := y0.1) (ps := y0.2) ht he hC t0 t1 t2 o0 o1 o2 hi ci ⟨k, by simpa [Value.cells] using h0⟩
    exact ⟨some a, len, cap, xs, rfl, hr, by omega⟩
end

end Go.Proofs.YtghlgmbekgfmnabDoor
