/-
  Words for slices: a slice that reads as a list of cells; lists of pairs and triples as cells. Nothing of the program is named here.
-/
import Derived.Test.YtghlgmbekgfmnabDoorBase
import Derived.IntWalk
namespace Go.Proofs.YtghlgmbekgfmnabDoor
open Go.RowKit

/-- the slice at A, of n elements of z cells each, reads as the cells xs -/
def Rd (w : World) (z : Nat) (A : Option Addr) (n : Nat) (xs : List Value) : Prop :=
  xs.length = n * z ∧ (0 < n → ∃ b o, A = some ⟨b, o, none⟩ ∧ b < w.heap.size ∧ ∀ j u, xs[j]? = some u → w.cell? ⟨b, o + j, none⟩ = some u)

theorem Rd.later {w w' : World} {z n : Nat} {A : Option Addr} {xs : List Value} (h : Rd w z A n xs) {B : Nat} (hb : Below B w w') (hB : w.heap.size ≤ B) : Rd w' z A n xs := by
  refine ⟨h.1, fun hn => ?_⟩
  obtain ⟨b, o, e, hl, hc⟩ := h.2 hn
  refine ⟨b, o, e, Nat.lt_of_lt_of_le hl hb.size, fun j u hu => ?_⟩
  rw [hb.cell (p := ⟨b, o + j, none⟩) (Nat.lt_of_lt_of_le hl hB)]
  exact hc j u hu

theorem Rd.alloc {w : World} {z n : Nat} {A : Option Addr} {xs : List Value} (h : Rd w z A n xs) (o : Obj) : Rd (w.alloc o) z A n xs :=
  h.later ((Below.refl w.heap.size w).alloc (Nat.le_refl _) o) (Nat.le_refl _)

/-- a list of pairs of integers, as cells -/
def pairCells : List (Int × Int) → List Value
  | [] => []
  | p :: r => .int .i64 p.1 :: .int .i64 p.2 :: pairCells r

theorem length_pairCells (l : List (Int × Int)) : (pairCells l).length = l.length * 2 := by
  induction l with
  | nil => rfl
  | cons p r ih => simp [pairCells, ih]; omega

theorem pairCells_at (l : List (Int × Int)) (k : Nat) (hk : k < l.length) :
    (pairCells l)[k * 2]? = some (.int .i64 (l[k]).1) ∧ (pairCells l)[k * 2 + 1]? = some (.int .i64 (l[k]).2) := by
  induction l generalizing k with
  | nil => simp at hk
  | cons p r ih =>
    cases k with
    | zero => simp [pairCells]
    | succ k =>
      have h := ih k (by simpa using hk)
      have e1 : (k + 1) * 2 = k * 2 + 1 + 1 := by omega
      rw [e1]
      simpa [pairCells] using h

theorem pairCells_append (l r : List (Int × Int)) : pairCells (l ++ r) = pairCells l ++ pairCells r := by
  induction l with
  | nil => rfl
  | cons p s ih => simp [pairCells, ih]

/-- element k of such a slice: its address and both cells -/
theorem Rd.pair {w : World} {n k : Nat} {A : Option Addr} {xs : List (Int × Int)} (h : Rd w 2 A n (pairCells xs)) (hk : k < n) :
    ∃ b o, A = some ⟨b, o, none⟩ ∧ b < w.heap.size ∧ ∃ hx : k < xs.length, w.cell? ⟨b, o + k * 2, none⟩ = some (.int .i64 (xs[k]).1) ∧ w.cell? ⟨b, o + k * 2 + 1, none⟩ = some (.int .i64 (xs[k]).2) := by
  obtain ⟨b, o, e, hl, hc⟩ := h.2 (by omega)
  have hx : k < xs.length := by have := h.1; rw [length_pairCells] at this; omega
  obtain ⟨h1, h2⟩ := pairCells_at xs k hx
  exact ⟨b, o, e, hl, hx, hc _ _ h1, by have := hc _ _ h2; rwa [← Nat.add_assoc] at this⟩

theorem set_pairCells (l : List (Int × Int)) (k : Nat) (hk : k < l.length) (a b : Int) :
    ((pairCells l).set (k * 2) (.int .i64 a)).set (k * 2 + 1) (.int .i64 b) = pairCells (l.set k (a, b)) := by
  induction l generalizing k with
  | nil => simp at hk
  | cons p r ih =>
    cases k with
    | zero => simp [pairCells]
    | succ k =>
      have h := ih k (by simpa using hk)
      have e1 : (k + 1) * 2 = k * 2 + 1 + 1 := by omega
      rw [e1]
      simp only [pairCells, List.set_cons_succ, h]

/-- an owned row reads as its cells -/
theorem Rd.of_own {w : World} {B e z n c : Nat} {A : Option Addr} {xs : List Value} (h : w.ownsRow B e z (.slice A n c) n xs) : Rd w z A n xs := by
  refine ⟨h.1, fun hn => ?_⟩
  rcases h.2 with ⟨h', h0⟩ | ⟨g, cap, cur, h', hb, hg, hnc, hcm, hcs, htake⟩
  · omega
  · simp only [Value.slice.injEq] at h'
    obtain ⟨rfl, _, rfl⟩ := h'
    have hlt : g < w.heap.size := (Array.getElem?_eq_some_iff.1 hg).1
    refine ⟨g, 0, rfl, hlt, fun j u hu => ?_⟩
    have hj : j < n * z := by have := (List.getElem?_eq_some_iff.1 hu).1; have := h.1; omega
    rw [Nat.zero_add, h.cellAt j hj]
    exact hu

/-- an owned row of at least one element lies in a block of its own, from B on -/
theorem own_at {w : World} {B e z n c : Nat} {A : Option Addr} {xs : List Value} (h : w.ownsRow B e z (.slice A n c) n xs) (hn : 0 < n) :
    ∃ g, A = some ⟨g, 0, none⟩ ∧ B ≤ g ∧ g < w.heap.size := by
  rcases h.2 with ⟨h', h0⟩ | ⟨g, cap, cur, h', hb, hg, _⟩
  · omega
  · simp only [Value.slice.injEq] at h'
    exact ⟨g, h'.1, hb, (Array.getElem?_eq_some_iff.1 hg).1⟩

/-- an owned row below a later block number is kept -/
theorem own_later {w w' : World} {B e z n c : Nat} {A : Option Addr} {xs : List Value} (h : w.ownsRow B e z (.slice A n c) n xs) {B' : Nat} (hb : Below B' w w') (hB : w.heap.size ≤ B') : w'.ownsRow B e z (.slice A n c) n xs := by
  refine ⟨h.1, ?_⟩
  rcases h.2 with h0 | ⟨g, cap, cur, h', hb', hg, rest⟩
  · exact .inl h0
  · have hlt : g < w.heap.size := (Array.getElem?_eq_some_iff.1 hg).1
    exact .inr ⟨g, cap, cur, h', hb', (hb.block g (by omega)).trans hg, rest⟩

theorem wdiv (a b : Nat) (h : a ≤ 1000000000) : wrap64 ((a : Int) / (b : Int)) = ((a / b : Nat) : Int) := by
  rw [← Int.natCast_ediv]
  have := Nat.div_le_self a b
  generalize a / b = c at *
  exact IntWalk.wrap64_in _ (by omega)
theorem wdivmul (a b c d m : Nat) (ha : a ≤ 1000) (hc : c ≤ 1000) : (wrap64 ((a : Int) / (b : Int) * ((c : Int) / (d : Int))) == (m : Int)) = decide (a / b * (c / d) = m) := by
  rw [← Int.natCast_ediv, ← Int.natCast_ediv, ← Int.natCast_mul]
  have h1 := Nat.div_le_self a b
  have h2 := Nat.div_le_self c d
  have h3 : a / b * (c / d) ≤ 1000 * 1000 := Nat.mul_le_mul (by omega) (by omega)
  generalize a / b * (c / d) = q at *
  rw [IntWalk.wrap64_in _ (by omega)]
  by_cases e : q = m
  · simp [e]
  · simp [e]; omega
theorem mod_ne {a b : Nat} (h : a % b ≠ 0) : ((a : Int) % (b : Int) != 0) = true := by
  rw [← Int.natCast_emod]; simp; omega
theorem mod_eq {a b : Nat} (h : a % b = 0) : ((a : Int) % (b : Int) != 0) = false := by
  rw [← Int.natCast_emod]; simp; omega
theorem mod_eq' {a b : Nat} (h : a % b = 0) : ((a : Int) % (b : Int) == 0) = true := by
  rw [← Int.natCast_emod]; simp; omega
theorem mod_ne' {a b : Nat} (h : a % b ≠ 0) : ((a : Int) % (b : Int) == 0) = false := by
  rw [← Int.natCast_emod]; simp; omega

theorem two_oneCell (k l : IntKind) (a b : Int) : ∀ u ∈ [Value.int k a, Value.int l b], u.oneCell' = true := by
  intro u hu; simp at hu; rcases hu with rfl | rfl <;> rfl

/-- what the append law leaves keeps all below the row's base -/
theorem bgrow {B : Nat} {a w w' : World} {A : Option Addr} {e z n c : Nat} {xs : List Value} (h : Below B a w) (ho : w.ownsRow B e z (.slice A n c) n xs) (hg : w.grownBy w' (Value.slice A n c).ownBlock) (hB : B ≤ w.heap.size) : Below B a w' :=
  h.grown hg hB (fun k hk => (ho.lt k hk).1)

theorem bcellB {B : Nat} {W w1 : World} (h : Below B W w1) : (∀ b o, b < B → w1.cell? ⟨b, o, none⟩ = W.cell? ⟨b, o, none⟩) ∧ (∀ b o, b < B → w1.frozen? ⟨b, o, none⟩ = W.frozen? ⟨b, o, none⟩) :=
  ⟨fun b o hb => h.cell (p := ⟨b, o, none⟩) hb, fun b o hb => h.frozen (p := ⟨b, o, none⟩) hb⟩

theorem cell_drew {w : World} {a : Addr} {r : Option Value} (h : w.cell? a = r) : w.drew.cell? a = r := h
theorem cell_drewN {w : World} {a : Addr} {r : Option Value} (n : Nat) (h : w.cell? a = r) : (w.drewN n).cell? a = r := h
theorem cell_alloc {w : World} {a : Addr} {r : Option Value} {o : Obj} (hl : a.block < w.heap.size) (h : w.cell? a = r) : (w.alloc o).cell? a = r := (World.cell?_alloc_lt _ _ _ hl).trans h
theorem cell_set {w : World} {a b : Addr} {r : Option Value} {v : Value} (hl : a ≠ b) (h : w.cell? b = r) : (w.setCell a v).cell? b = r := (World.cell?_setCell_other _ _ _ _ hl).trans h

theorem own_base {w : World} {B B' e z n : Nat} {v : Value} {xs : List Value} (h : w.ownsRow B e z v n xs) (hB : B' ≤ B) : w.ownsRow B' e z v n xs := by
  refine ⟨h.1, ?_⟩
  rcases h.2 with h0 | ⟨g, cap, cur, h', hb', hg, rest⟩
  · exact .inl h0
  · exact .inr ⟨g, cap, cur, h', by omega, hg, rest⟩

/-- whatever an owned row's value is, it is a slice of its length -/
theorem own_slice {w : World} {B e z n : Nat} {v : Value} {xs : List Value} (h : w.ownsRow B e z v n xs) : ∃ A c, v = .slice A n c := by
  rcases h.2 with ⟨rfl, rfl⟩ | ⟨g, cap, cur, rfl, _⟩
  · exact ⟨_, _, rfl⟩
  · exact ⟨_, _, rfl⟩

/-- the cells of one new element of two lie in the block that was just made -/
theorem new2 (w : World) (e : TypeId) (a b : Value) : ∀ (j : Nat) (u : Value), [a, b][j]? = some u → (w.alloc (.cells #[a, b] e)).cell? ((⟨w.heap.size, 0, none⟩ : Addr).add j) = some u := by
  intro j u hj
  match j, hj with
  | 0, hj => simp at hj; subst hj; simp [Addr.add, go_sem]
  | 1, hj => simp at hj; subst hj; simp [Addr.add, go_sem]

/-- a list of breaks (a number, a way, a place), as cells -/
def tripCells : List (Int × Bool × Int) → List Value
  | [] => []
  | p :: r => .int .i64 p.1 :: .bool p.2.1 :: .int .i64 p.2.2 :: tripCells r
theorem length_tripCells (l : List (Int × Bool × Int)) : (tripCells l).length = l.length * 3 := by
  induction l with
  | nil => rfl
  | cons p r ih => simp [tripCells, ih]; omega
theorem tripCells_at (l : List (Int × Bool × Int)) (k : Nat) (hk : k < l.length) :
    (tripCells l)[k * 3]? = some (.int .i64 (l[k]).1) ∧ (tripCells l)[k * 3 + 1]? = some (.bool (l[k]).2.1) ∧ (tripCells l)[k * 3 + 2]? = some (.int .i64 (l[k]).2.2) := by
  induction l generalizing k with
  | nil => simp at hk
  | cons p r ih =>
    cases k with
    | zero => simp [tripCells]
    | succ k =>
      have h := ih k (by simpa using hk)
      have e1 : (k + 1) * 3 = k * 3 + 1 + 1 + 1 := by omega
      rw [e1]
      simpa [tripCells] using h
theorem tripCells_append (l r : List (Int × Bool × Int)) : tripCells (l ++ r) = tripCells l ++ tripCells r := by
  induction l with
  | nil => rfl
  | cons p s ih => simp [tripCells, ih]
theorem Rd.trip {w : World} {n k : Nat} {A : Option Addr} {xs : List (Int × Bool × Int)} (h : Rd w 3 A n (tripCells xs)) (hk : k < n) :
    ∃ b o, A = some ⟨b, o, none⟩ ∧ b < w.heap.size ∧ ∃ hx : k < xs.length, w.cell? ⟨b, o + k * 3, none⟩ = some (.int .i64 (xs[k]).1) ∧ w.cell? ⟨b, o + k * 3 + 1, none⟩ = some (.bool (xs[k]).2.1) ∧ w.cell? ⟨b, o + k * 3 + 2, none⟩ = some (.int .i64 (xs[k]).2.2) := by
  obtain ⟨b, o, e, hl, hc⟩ := h.2 (by omega)
  have hx : k < xs.length := by have := h.1; rw [length_tripCells] at this; omega
  obtain ⟨h1, h2, h3⟩ := tripCells_at xs k hx
  exact ⟨b, o, e, hl, hx, hc _ _ h1, by have := hc _ _ h2; rwa [← Nat.add_assoc] at this, by have := hc _ _ h3; rwa [← Nat.add_assoc] at this⟩

/-- the marks that the laws write: k, k + 1, and so on, two an element -/
def marks2 (k : Int) (n : Nat) : List (Int × Int) := (List.range n).map fun (i : Nat) => (k + 2 * (i : Int), k + 2 * (i : Int) + 1)
theorem length_marks2 (k : Int) (n : Nat) : (marks2 k n).length = n := by simp [marks2]
theorem marks2_at (k : Int) (n i : Nat) (h : i < (marks2 k n).length) : (marks2 k n)[i] = (k + 2 * (i : Int), k + 2 * (i : Int) + 1) := by simp [marks2]

end Go.Proofs.YtghlgmbekgfmnabDoor
