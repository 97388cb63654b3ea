/-
  Words for slices of boxes: three numbers an element; such a slice that came in, opened. Nothing of the program is named here.
-/
import Derived.Test.YtghlgmbekgfmnabDoorWords
import Derived.ProofKit
import Derived.OpenShut
import Derived.Lib.SmallJoins
import Derived.Deep.Slices
import Derived.Deep.Strs
namespace Go.Proofs.YtghlgmbekgfmnabDoor
open Go.ChangeShapes Go.WideShapes Go.ChangeAt Go.RowKit Go.Joins Go.Deep

/-- a list of boxes, as cells -/
def boxCells : List (Int × Int × Int) → List Value
  | [] => []
  | p :: r => .int .i64 p.1 :: .int .i64 p.2.1 :: .int .i64 p.2.2 :: boxCells r
theorem length_boxCells (l : List (Int × Int × Int)) : (boxCells l).length = l.length * 3 := by
  induction l with
  | nil => rfl
  | cons p r ih => simp [boxCells, ih]; omega
theorem boxCells_at (l : List (Int × Int × Int)) (k : Nat) (hk : k < l.length) :
    (boxCells l)[k * 3]? = some (.int .i64 (l[k]).1) ∧ (boxCells l)[k * 3 + 1]? = some (.int .i64 (l[k]).2.1) ∧ (boxCells l)[k * 3 + 2]? = some (.int .i64 (l[k]).2.2) := by
  induction l generalizing k with
  | nil => simp at hk
  | cons p r ih =>
    cases k with
    | zero => simp [boxCells]
    | succ k =>
      have h := ih k (by simpa using hk)
      have e1 : (k + 1) * 3 = k * 3 + 1 + 1 + 1 := by omega
      rw [e1]
      simpa [boxCells] using h
theorem boxCells_append (l r : List (Int × Int × Int)) : boxCells (l ++ r) = boxCells l ++ boxCells r := by
  induction l with
  | nil => rfl
  | cons p s ih => simp [boxCells, ih]
theorem Rd.box {w : World} {n k : Nat} {A : Option Addr} {xs : List (Int × Int × Int)} (h : Rd w 3 A n (boxCells xs)) (hk : k < n) :
    ∃ b o, A = some ⟨b, o, none⟩ ∧ b < w.heap.size ∧ ∃ hx : k < xs.length, w.cell? ⟨b, o + k * 3, none⟩ = some (.int .i64 (xs[k]).1) ∧ w.cell? ⟨b, o + k * 3 + 1, none⟩ = some (.int .i64 (xs[k]).2.1) ∧ w.cell? ⟨b, o + k * 3 + 2, none⟩ = some (.int .i64 (xs[k]).2.2) := by
  obtain ⟨b, o, e, hl, hc⟩ := h.2 (by omega)
  have hx : k < xs.length := by have := h.1; rw [length_boxCells] at this; omega
  obtain ⟨h1, h2, h3⟩ := boxCells_at xs k hx
  exact ⟨b, o, e, hl, hx, hc _ _ h1, by have := hc _ _ h2; rwa [← Nat.add_assoc] at this, by have := hc _ _ h3; rwa [← Nat.add_assoc] at this⟩


theorem set_boxCells (l : List (Int × Int × Int)) (k : Nat) (hk : k < l.length) (a b c : Int) :
    (((boxCells l).set (k * 3) (.int .i64 a)).set (k * 3 + 1) (.int .i64 b)).set (k * 3 + 2) (.int .i64 c) = boxCells (l.set k (a, b, c)) := by
  induction l generalizing k with
  | nil => simp at hk
  | cons p r ih =>
    cases k with
    | zero => simp [boxCells]
    | succ k =>
      have h := ih k (by simpa using hk)
      have e1 : (k + 1) * 3 = k * 3 + 1 + 1 + 1 := by omega
      have e2 : k * 3 + 1 + 1 + 1 + 2 = k * 3 + 2 + 1 + 1 + 1 := by omega
      rw [e1, e2]
      simp only [boxCells, List.set_cons_succ, h]
def marks3 (k : Int) (n : Nat) : List (Int × Int × Int) := (List.range n).map fun (i : Nat) => (k + 3 * (i : Int), k + 3 * (i : Int) + 1, k + 3 * (i : Int) + 1 + 1)
theorem length_marks3 (k : Int) (n : Nat) : (marks3 k n).length = n := by simp [marks3]
theorem marks3_at (k : Int) (n i : Nat) (h : i < (marks3 k n).length) : (marks3 k n)[i] = (k + 3 * (i : Int), k + 3 * (i : Int) + 1, k + 3 * (i : Int) + 1 + 1) := by simp [marks3]

theorem box_all {w : World} {b o : Nat} (l : List (Int × Int × Int))
    (h : ∀ (i : Nat) (hi : i < l.length), w.cell? ⟨b, o + i * 3, none⟩ = some (.int .i64 (l[i]).1) ∧ w.cell? ⟨b, o + i * 3 + 1, none⟩ = some (.int .i64 (l[i]).2.1) ∧ w.cell? ⟨b, o + i * 3 + 2, none⟩ = some (.int .i64 (l[i]).2.2)) :
    ∀ (j : Nat) (u : Value), (boxCells l)[j]? = some u → w.cell? ⟨b, o + j, none⟩ = some u := by
  intro j u hu
  have hj : j < l.length * 3 := by have := (List.getElem?_eq_some_iff.1 hu).1; rw [length_boxCells] at this; exact this
  have hi : j / 3 < l.length := by omega
  obtain ⟨a0, a1, a2⟩ := boxCells_at l (j / 3) hi
  obtain ⟨b0, b1, b2⟩ := h (j / 3) hi
  rcases (show j = j / 3 * 3 ∨ j = j / 3 * 3 + 1 ∨ j = j / 3 * 3 + 2 by omega) with e | e | e
  · rw [← e] at a0
    have e' : o + j = o + j / 3 * 3 := by omega
    rw [e', b0, ← a0, hu]
  · rw [← e] at a1
    have e' : o + j = o + j / 3 * 3 + 1 := by omega
    rw [e', b1, ← a1, hu]
  · rw [← e] at a2
    have e' : o + j = o + j / 3 * 3 + 2 := by omega
    rw [e', b2, ← a2, hu]

theorem add_spotB {b o k : Nat} : (⟨b, o, none⟩ : Addr).add k = ⟨b, o + k, none⟩ := by
  unfold Addr.add; split <;> simp_all

section
variable {H : Type} {enc : TypeId × Value → H} {P : Program} {w : World} {base : Nat} {spare : Nat → Bool} {held : Bool}
theorem open_boxes {t e ti : TypeId} {f0 f1 f2 : Field} {A : Option Addr} {n c : Nat} {d : DataW H} {ps : List MemPlace} (ht : P.underlying t = some (.slice e)) (he : P.underlying e = some (.struct #[f0, f1, f2])) (hC : P.cellsOf e = 3)
    (t0 : f0.type = ti) (t1 : f1.type = ti) (t2 : f2.type = ti) (o0 : f0.offset = 0) (o1 : f1.offset = 1) (o2 : f2.offset = 2) (hi : P.underlying ti = some (.int .i64)) (ci : P.cellsOf ti = 1)
    (h : DataW.Trod enc P w base spare held t (.slice A n c) d ps) : ∃ xs : List (Int × Int × Int), Rd w 3 A n (boxCells xs) := by
  obtain ⟨fuel, hf⟩ := h
  rcases open_slice ht hf with ⟨hcs, _⟩ | ⟨a, len, cap, m, k, D, Pl, hcs, _, hl, hm, hmm, _, hall⟩
  · simp [Value.cells] at hcs
    obtain ⟨rfl, rfl, rfl⟩ := hcs
    exact ⟨[], by simp [boxCells], fun h0 => absurd h0 (by omega)⟩
  · simp [Value.cells] at hcs
    obtain ⟨rfl, rfl, rfl⟩ := hcs
    have hlm : n ≤ m := by rw [hmm]; split <;> omega
    have each : ∀ i, i < n → ∃ q : Int × Int × Int, w.cell? (a.add (i * 3)) = some (.int .i64 q.1) ∧ w.cell? ((a.add (i * 3)).add 1) = some (.int .i64 q.2.1) ∧ w.cell? ((a.add (i * 3)).add 2) = some (.int .i64 q.2.2) := by
      intro i hi'
      obtain ⟨cs', hc, hd⟩ := hall i (by omega)
      rw [hC] at hc
      obtain ⟨_, hlen, hat⟩ := World.cells?_some hc
      obtain ⟨y0, y1, y2, k2, _, _, h0, h1, h2⟩ := trod_struct3 he hd
      match cs', hlen with
      | [c0, c1, c2], _ =>
        rw [t0, o0, ci] at h0
        rw [t1, o1, ci] at h1
        rw [t2, o2, ci] at h2
        obtain ⟨p, e0, _, _⟩ := DataW.trod_int hi h0
        obtain ⟨dd, e1, _, _⟩ := DataW.trod_int hi h1
        obtain ⟨tt, e2, _, _⟩ := DataW.trod_int hi h2
        simp at e0 e1 e2
        subst e0 e1 e2
        refine ⟨(p, dd, tt), ?_, ?_, ?_⟩
        · have := hat 0 (by omega); simpa [Addr.add] using this
        · have := hat 1 (by omega); simpa using this
        · have := hat 2 (by omega); simpa using this
    obtain ⟨f, hfs⟩ := choose_lt each
    refine ⟨(List.range n).map f, by simp [length_boxCells], fun h0 => ?_⟩
    obtain ⟨z0, _, _⟩ := hfs 0 h0
    have hs := World.cell?_spot z0
    obtain ⟨b, o, sp⟩ := a
    have hsp : sp = none := by simpa [Addr.add] using hs
    subst hsp
    refine ⟨b, o, rfl, World.block_lt_of_cell? w _ (by simpa [Addr.add] using z0), box_all _ fun i hi' => ?_⟩
    have hin : i < n := by simpa using hi'
    obtain ⟨q0, q1, q2⟩ := hfs i hin
    simp only [add_spotB] at q0 q1 q2
    simp only [List.getElem_map, List.getElem_range]
    exact ⟨q0, q1, q2⟩
end

end Go.Proofs.YtghlgmbekgfmnabDoor
