/-
  Words for slices of strings and of numbers: one cell an element; such a slice that came in, opened. Nothing of the program is named here.
-/
import Derived.Test.YtghlgmbekgfmnabDoorWords
import Derived.ProofKit
import Derived.OpenShut
import Derived.Lib.SmallJoins
import Derived.Deep.Slices
import Derived.Deep.Strs
import Derived.WalkSmall
import Derived.Lib.OthersKept
namespace Go.Proofs.YtghlgmbekgfmnabDoor
open Go.ChangeShapes Go.WideShapes Go.ChangeAt Go.RowKit Go.Joins Go.Deep

def strCells (l : List ByteArray) : List Value := l.map Value.string
def intCells (l : List Int) : List Value := l.map (Value.int .i64)
theorem length_strCells (l : List ByteArray) : (strCells l).length = l.length := by simp [strCells]
theorem length_intCells (l : List Int) : (intCells l).length = l.length := by simp [intCells]
theorem strCells_append (l r : List ByteArray) : strCells (l ++ r) = strCells l ++ strCells r := by simp [strCells]
theorem intCells_append (l r : List Int) : intCells (l ++ r) = intCells l ++ intCells r := by simp [intCells]
theorem set_strCells (l : List ByteArray) (k : Nat) (s : ByteArray) : (strCells l).set k (.string s) = strCells (l.set k s) := by simp [strCells, List.map_set]
theorem set_intCells (l : List Int) (k : Nat) (s : Int) : (intCells l).set k (.int .i64 s) = intCells (l.set k s) := by simp [intCells, List.map_set]
theorem str_oneCell (l : List ByteArray) : ∀ u ∈ strCells l, u.oneCell' = true := by
  intro u hu; simp [strCells] at hu; obtain ⟨s, _, rfl⟩ := hu; rfl
theorem int_oneCell (l : List Int) : ∀ u ∈ intCells l, u.oneCell' = true := by
  intro u hu; simp [intCells] at hu; obtain ⟨s, _, rfl⟩ := hu; rfl

theorem Rd.len {w : World} {z n : Nat} {A : Option Addr} {xs : List Value} (h : Rd w z A n xs) : xs.length = n * z := h.1
theorem Rd.slen {w : World} {n : Nat} {A : Option Addr} {xs : List ByteArray} (h : Rd w 1 A n (strCells xs)) : xs.length = n := by have := h.1; rw [length_strCells] at this; omega
theorem Rd.ilen {w : World} {n : Nat} {A : Option Addr} {xs : List Int} (h : Rd w 1 A n (intCells xs)) : xs.length = n := by have := h.1; rw [length_intCells] at this; omega

theorem Rd.str {w : World} {n k : Nat} {A : Option Addr} {xs : List ByteArray} (h : Rd w 1 A n (strCells xs)) (hk : k < n) :
    ∃ b o, A = some ⟨b, o, none⟩ ∧ b < w.heap.size ∧ ∃ hx : k < xs.length, w.cell? ⟨b, o + k, none⟩ = some (.string xs[k]) := by
  obtain ⟨b, o, e, hl, hc⟩ := h.2 (by omega)
  have hx : k < xs.length := by rw [h.slen]; exact hk
  exact ⟨b, o, e, hl, hx, hc _ _ (by simp [strCells, hx])⟩
theorem Rd.num {w : World} {n k : Nat} {A : Option Addr} {xs : List Int} (h : Rd w 1 A n (intCells xs)) (hk : k < n) :
    ∃ b o, A = some ⟨b, o, none⟩ ∧ b < w.heap.size ∧ ∃ hx : k < xs.length, w.cell? ⟨b, o + k, none⟩ = some (.int .i64 xs[k]) := by
  obtain ⟨b, o, e, hl, hc⟩ := h.2 (by omega)
  have hx : k < xs.length := by rw [h.ilen]; exact hk
  exact ⟨b, o, e, hl, hx, hc _ _ (by simp [intCells, hx])⟩

theorem Rd.nil (w : World) (z : Nat) : Rd w z none 0 [] := ⟨by simp, fun h => absurd h (by omega)⟩

/-- the cell of one new element of one cell lies in the block that was just made -/
theorem new1 (w : World) (e : TypeId) (a : Value) : ∀ (j : Nat) (u : Value), [a][j]? = some u → (w.alloc (.cells #[a] e)).cell? ((⟨w.heap.size, 0, none⟩ : Addr).add j) = some u := by
  intro j u hj
  match j, hj with
  | 0, hj => simp at hj; subst hj; simp [Addr.add, go_sem]

theorem gb_trans {w w' w'' : World} {row : Option Nat} (h : w.grownBy w' row) (k : w'.grownBy w'' row) : w.grownBy w'' row :=
  ⟨k.os.trans h.os, k.tape.trans h.tape, k.output.trans h.output, Nat.le_trans h.size k.size, fun i hi hr => (k.block i (Nat.lt_of_lt_of_le hi h.size) hr).trans (h.block i hi hr)⟩
/-- new blocks alone are growth beside any row -/
theorem gb_below {w w' : World} (h : Below w.heap.size w w') (row : Option Nat) : w.grownBy w' row :=
  ⟨h.os, h.tape, h.output, h.size, fun i hi _ => h.block i hi⟩
/-- growth beside a row that is new is no more than new blocks -/
theorem gb_new {w w' w'' : World} {row : Option Nat} {B : Nat} (hB : B ≤ w.heap.size) (h : Below B w w') (k : w'.grownBy w'' row) (hr : ∀ g, row = some g → B ≤ g) : Below B w w'' :=
  h.grown k (Nat.le_trans hB h.size) hr

/-- block k is the iterator of a text that stands at p -/
def ItAt (w : World) (k : Nat) (s : ByteArray) (p : Nat) : Prop := w.heap[k]? = some (.stringIter s p)
theorem rd_iterAt {w : World} {z n : Nat} {A : Option Addr} {xs : List Value} (h : Rd w z A n xs) {k p0 : Nat} {s : ByteArray} (hk : w.heap[k]? = some (.stringIter s p0)) (p : Nat) : Rd (w.iterAt k s p) z A n xs := by
  refine ⟨h.1, fun hn => ?_⟩
  obtain ⟨b, o, e, hl, hc⟩ := h.2 hn
  refine ⟨b, o, e, by rw [Lib.iterAt_size]; exact hl, fun j u hu => ?_⟩
  have q := hc j u hu
  have hne : b ≠ k := by
    rintro rfl
    simp [World.cell?, hk] at q
  rw [← q]
  exact World.cell?_of_block (Lib.iterAt_other w k b s p hne)

/-- two rows of different calls lie in different blocks -/
theorem own_apart {v v' : Value} {a b c d : Nat} (h : ∀ g, v.ownBlock = some g → a ≤ g ∧ g < b) (h' : ∀ g, v'.ownBlock = some g → c ≤ g ∧ g < d) (hh : b ≤ c ∨ d ≤ a) : v.ownBlock = none ∨ v.ownBlock ≠ v'.ownBlock := by
  rcases hv : v.ownBlock with _ | q
  · exact .inl rfl
  · refine .inr ?_
    intro e
    have h1 := h q hv
    have h2 := h' q e.symm
    omega

section
variable {H : Type} {enc : TypeId × Value → H} {P : Program} {w : World} {base : Nat} {spare : Nat → Bool} {held : Bool}
theorem open_strL {t e : TypeId} {A : Option Addr} {n c : Nat} {d : DataW H} {ps : List MemPlace} (ht : P.underlying t = some (.slice e)) (he : P.underlying e = some .string) (hc : P.cellsOf e = 1)
    (h : DataW.Trod enc P w base spare held t (.slice A n c) d ps) : ∃ xs : List ByteArray, Rd w 1 A n (strCells xs) ∧ (∀ s ∈ xs, s.size ≤ 9223372036854775807) ∧ n ≤ 9223372036854775807 := by
  obtain ⟨fuel, hf⟩ := h
  rcases open_strs ht he hc hf with ⟨hcs, _⟩ | ⟨a, len, cap, m, Sx, hcs, _, hl, hcm, hmm, _, hx⟩
  · simp [Value.cells] at hcs
    obtain ⟨rfl, rfl, rfl⟩ := hcs
    exact ⟨[], Rd.nil _ _, by simp, by omega⟩
  · simp [Value.cells] at hcs
    obtain ⟨rfl, rfl, rfl⟩ := hcs
    have hlm : n ≤ m := by rw [hmm]; split <;> omega
    unfold maxLen at hcm
    refine ⟨(List.range n).map Sx, ⟨by simp [strCells], fun h0 => ?_⟩, ?_, by omega⟩
    · obtain ⟨z0, _⟩ := hx 0 (by omega)
      have hs := World.cell?_spot z0
      obtain ⟨b, o, sp⟩ := a
      have hsp : sp = none := by simpa [Addr.add] using hs
      subst hsp
      refine ⟨b, o, rfl, World.block_lt_of_cell? w _ (by simpa [Addr.add] using z0), fun j u hu => ?_⟩
      have hj : j < n := by have := (List.getElem?_eq_some_iff.1 hu).1; simpa [strCells] using this
      have q := (hx j (by omega)).1
      have e1 : (⟨b, o, none⟩ : Addr).add j = ⟨b, o + j, none⟩ := by unfold Addr.add; split <;> simp_all
      rw [e1] at q
      rw [q, ← hu]
      simp [strCells, hj]
    · intro s hs
      simp at hs
      obtain ⟨i, hi, rfl⟩ := hs
      have := (hx i (by omega)).2
      unfold maxLen at this
      exact this
end

end Go.Proofs.YtghlgmbekgfmnabDoor
