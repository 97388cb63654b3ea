/-
  Words for slices of structs of four numbers, and for the parts of a bar: their lists in order, the nuts in one by corners. Nothing of the program is named here.
-/
import Derived.Test.YtfbmnaepobhnkaaCorners
namespace Go.Proofs.Ytfbmnaepobhnkaa
open Go.RowKit

abbrev Quad := Int × Int × Int × Int
def quadCells : List Quad → List Value
  | [] => []
  | p :: r => .int .i64 p.1 :: .int .i64 p.2.1 :: .int .i64 p.2.2.1 :: .int .i64 p.2.2.2 :: quadCells r
theorem length_quadCells (l : List Quad) : (quadCells l).length = l.length * 4 := by
  induction l with
  | nil => rfl
  | cons p r ih => simp [quadCells, ih]; omega
theorem quadCells_at (l : List Quad) (k : Nat) (hk : k < l.length) :
    (quadCells l)[k * 4]? = some (.int .i64 (l[k]).1) ∧ (quadCells l)[k * 4 + 1]? = some (.int .i64 (l[k]).2.1) ∧ (quadCells l)[k * 4 + 2]? = some (.int .i64 (l[k]).2.2.1) ∧ (quadCells l)[k * 4 + 3]? = some (.int .i64 (l[k]).2.2.2) := by
  induction l generalizing k with
  | nil => simp at hk
  | cons p r ih =>
    cases k with
    | zero => simp [quadCells]
    | succ k =>
      have h := ih k (by simpa using hk)
      have e1 : (k + 1) * 4 = k * 4 + 1 + 1 + 1 + 1 := by omega
      rw [e1]
      simpa [quadCells] using h
theorem quadCells_append (l r : List Quad) : quadCells (l ++ r) = quadCells l ++ quadCells r := by
  induction l with
  | nil => rfl
  | cons p s ih => simp [quadCells, ih]
theorem Rd.quad {w : World} {n k : Nat} {A : Option Addr} {xs : List Quad} (h : Rd w 4 A n (quadCells xs)) (hk : k < n) :
    ∃ b o, A = some ⟨b, o, none⟩ ∧ b < w.heap.size ∧ ∃ hx : k < xs.length, w.cell? ⟨b, o + k * 4, none⟩ = some (.int .i64 (xs[k]).1) ∧ w.cell? ⟨b, o + k * 4 + 1, none⟩ = some (.int .i64 (xs[k]).2.1) ∧ w.cell? ⟨b, o + k * 4 + 2, none⟩ = some (.int .i64 (xs[k]).2.2.1) ∧ w.cell? ⟨b, o + k * 4 + 3, none⟩ = some (.int .i64 (xs[k]).2.2.2) := by
  obtain ⟨b, o, e, hl, hc⟩ := h.2 (by omega)
  have hx : k < xs.length := by have := h.1; rw [length_quadCells] at this; omega
  obtain ⟨h1, h2, h3, h4⟩ := quadCells_at xs k hx
  exact ⟨b, o, e, hl, hx, hc _ _ h1, by have := hc _ _ h2; rwa [← Nat.add_assoc] at this, by have := hc _ _ h3; rwa [← Nat.add_assoc] at this, by have := hc _ _ h4; rwa [← Nat.add_assoc] at this⟩
/-- the cells of one new element of four lie in the block that was just made -/
theorem new4 (w : World) (e : TypeId) (a b c d : Value) : ∀ (j : Nat) (u : Value), [a, b, c, d][j]? = some u → (w.alloc (.cells #[a, b, c, d] e)).cell? ((⟨w.heap.size, 0, none⟩ : Addr).add j) = some u := by
  intro j u hj
  match j, hj with
  | 0, hj => simp at hj; subst hj; simp [Addr.add, go_sem]
  | 1, hj => simp at hj; subst hj; simp [Addr.add, go_sem]
  | 2, hj => simp at hj; subst hj; simp [Addr.add, go_sem]
  | 3, hj => simp at hj; subst hj; simp [Addr.add, go_sem]
theorem four_oneCell (a b c d : Int) : ∀ u ∈ [Value.int .i64 a, Value.int .i64 b, Value.int .i64 c, Value.int .i64 d], u.oneCell' = true := by
  intro u hu; simp at hu; rcases hu with rfl | rfl | rfl | rfl <;> rfl

/-- the parts of size a, b in row y, at columns below k -/
def rowParts (a b y : Nat) : Nat → List Quad
  | 0 => []
  | k + 1 => rowParts a b y k ++ [((k : Int), (y : Int), (a : Int), (b : Int))]
/-- those in rows below k, of c in each row -/
def sizeParts (a b c : Nat) : Nat → List Quad
  | 0 => []
  | k + 1 => sizeParts a b c k ++ rowParts a b k c
/-- those of width a and heights up to k in a bar W, H -/
def wideParts (W H a : Nat) : Nat → List Quad
  | 0 => []
  | k + 1 => wideParts W H a k ++ sizeParts a (k + 1) (W + 1 - a) (H + 1 - (k + 1))
/-- those of widths up to k -/
def barParts (W H : Nat) : Nat → List Quad
  | 0 => []
  | k + 1 => barParts W H k ++ wideParts W H (k + 1) H
theorem length_rowParts (a b y k : Nat) : (rowParts a b y k).length = k := by
  induction k with
  | zero => rfl
  | succ k ih => simp [rowParts, ih]
theorem length_sizeParts (a b c k : Nat) : (sizeParts a b c k).length = c * k := by
  induction k with
  | zero => rfl
  | succ k ih => simp [sizeParts, ih, length_rowParts, Nat.mul_add]
theorem length_wideParts (W H a k : Nat) (hW : W ≤ 8) (hH : H ≤ 8) (ha : 1 ≤ a) : (wideParts W H a k).length ≤ 64 * k := by
  induction k with
  | zero => simp [wideParts]
  | succ k ih =>
    have h : (W + 1 - a) * (H + 1 - (k + 1)) ≤ 8 * 8 := Nat.mul_le_mul (by omega) (by omega)
    simp only [wideParts, List.length_append, length_sizeParts]
    omega
theorem length_barParts (W H k : Nat) (hW : W ≤ 8) (hH : H ≤ 8) : (barParts W H k).length ≤ 512 * k := by
  induction k with
  | zero => simp [barParts]
  | succ k ih =>
    have h := length_wideParts W H (k + 1) H hW hH (by omega)
    simp only [barParts, List.length_append]
    omega

/-- a part by its four corners -/
theorem rect_corner (ss : List ByteArray) (x y a b : Nat) : rect ss 0 0 (x + a) (y + b) + rect ss 0 0 x y = rect ss 0 0 (x + a) y + rect ss 0 0 x (y + b) + rect ss x y a b := by
  have h1 : ∀ w, rect ss 0 0 w (y + b) = rect ss 0 0 w y + rs (fun j => rs (nutV ss j) 0 w) y b := by
    intro w
    show rs _ 0 (y + b) = _
    rw [rs_split, Nat.zero_add]
    rfl
  have h2 : rs (fun j => rs (nutV ss j) 0 (x + a)) y b = rs (fun j => rs (nutV ss j) 0 x) y b + rect ss x y a b := by
    show _ = _ + rs (fun j => rs (nutV ss j) x a) y b
    rw [← rs_add]
    apply rs_congr
    intro i _
    rw [rs_split, Nat.zero_add]
  rw [h1, h1, h2]
  omega
/-- the corner of the whole table -/
theorem corn_full (ss : List ByteArray) {W n x y : Nat} (hx : x ≤ W) (hW : W ≤ 8) (hy : y ≤ n) : cornV ss W n 0 (y * 9 + x) = (rect ss 0 0 x y : Nat) := by
  have e1 : (y * 9 + x) % 9 = x := by omega
  have e2 : (y * 9 + x) / 9 = y := by omega
  unfold cornV
  rw [e1, e2, if_pos ⟨hx, .inl hy⟩]

/-- whether these are nuts with such a part -/
def partOk (ss : List ByteArray) (x y a b : Int) : Bool := nutsB ss && partB (nutW ss) ss.length x y a b
def inPart (ss : List ByteArray) (x y a b : Int) : Int := if partOk ss x y a b then ((rect ss x.toNat y.toNat a.toNat b.toNat : Nat) : Int) else 0
theorem part_cases {p : Prop} (ss : List ByteArray) (n : Nat) (x y a b : Int) (hl : ss.length = n)
    (h1 : nutsB ss = false → partOk ss x y a b = false → inPart ss x y a b = 0 → p)
    (h2 : NB ss (nutW ss) n → nutsB ss = true → partB (nutW ss) n x y a b = false → partOk ss x y a b = false → inPart ss x y a b = 0 → p)
    (h3 : ∀ X Y a' b' : Nat, x = X → y = Y → a = a' → b = b' → NB ss (nutW ss) n → nutsB ss = true → partB (nutW ss) n X Y a' b' = true → X + a' ≤ nutW ss → Y + b' ≤ n → 1 ≤ a' → 1 ≤ b' → partOk ss X Y a' b' = true → inPart ss X Y a' b' = (rect ss X Y a' b' : Nat) → p) : p := by
  cases hB : nutsB ss
  · have e : partOk ss x y a b = false := by simp [partOk, hB]
    exact h1 hB e (by simp [inPart, e])
  · have hb := NB.of hB
    rw [hl] at hb
    cases hP : partB (nutW ss) n x y a b
    · have e : partOk ss x y a b = false := by simp [partOk, hl, hP]
      exact h2 hb hB hP e (by simp [inPart, e])
    · have e : partOk ss x y a b = true := by simp [partOk, hB, hl, hP]
      have hP' := hP
      simp only [partB, Bool.and_eq_true, decide_eq_true_eq] at hP'
      obtain ⟨⟨⟨⟨ha, hx⟩, hy⟩, hx2⟩, hy2⟩ := hP'
      obtain ⟨a1, a2, b1, b2⟩ := barB_true ha
      obtain ⟨X, rfl⟩ := Int.eq_ofNat_of_zero_le hx
      obtain ⟨Y, rfl⟩ := Int.eq_ofNat_of_zero_le hy
      obtain ⟨a', rfl⟩ := Int.eq_ofNat_of_zero_le (show 0 ≤ a by omega)
      obtain ⟨b', rfl⟩ := Int.eq_ofNat_of_zero_le (show 0 ≤ b by omega)
      exact h3 X Y a' b' rfl rfl rfl rfl hb hB hP (by omega) (by omega) (by omega) (by omega) e (by simp [inPart, e])

end Go.Proofs.Ytfbmnaepobhnkaa
