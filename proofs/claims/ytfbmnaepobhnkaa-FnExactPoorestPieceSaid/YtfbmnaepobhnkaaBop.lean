/-
  Words and contract: both parts of each break of a part, of the program.
-/
import Derived.Test.YtfbmnaepobhnkaaPartO
import Derived.Test.YtfbmnaepobhnkaaLines
import Derived.Maps.AppendAt
namespace Go.Proofs.Ytfbmnaepobhnkaa
open Go.RowKit
set_option linter.unusedVariables false

abbrev Oct := Quad × Quad
def octCells : List Oct → List Value
  | [] => []
  | p :: r => .int .i64 p.1.1 :: .int .i64 p.1.2.1 :: .int .i64 p.1.2.2.1 :: .int .i64 p.1.2.2.2 :: .int .i64 p.2.1 :: .int .i64 p.2.2.1 :: .int .i64 p.2.2.2.1 :: .int .i64 p.2.2.2.2 :: octCells r
theorem length_octCells (l : List Oct) : (octCells l).length = l.length * 8 := by
  induction l with
  | nil => rfl
  | cons p r ih => simp [octCells, ih]; omega
theorem octCells_append (l r : List Oct) : octCells (l ++ r) = octCells l ++ octCells r := by
  induction l with
  | nil => rfl
  | cons p s ih => simp [octCells, ih]
theorem octCells_at (l : List Oct) (k : Nat) (hk : k < l.length) :
    (octCells l)[k * 8]? = some (.int .i64 (l[k]).1.1) ∧ (octCells l)[k * 8 + 1]? = some (.int .i64 (l[k]).1.2.1) ∧ (octCells l)[k * 8 + 2]? = some (.int .i64 (l[k]).1.2.2.1) ∧ (octCells l)[k * 8 + 3]? = some (.int .i64 (l[k]).1.2.2.2)
    ∧ (octCells l)[k * 8 + 4]? = some (.int .i64 (l[k]).2.1) ∧ (octCells l)[k * 8 + 5]? = some (.int .i64 (l[k]).2.2.1) ∧ (octCells l)[k * 8 + 6]? = some (.int .i64 (l[k]).2.2.2.1) ∧ (octCells l)[k * 8 + 7]? = some (.int .i64 (l[k]).2.2.2.2) := by
  induction l generalizing k with
  | nil => simp at hk
  | cons p r ih =>
    cases k with
    | zero => simp [octCells]
    | succ k =>
      have h := ih k (by simpa using hk)
      have e1 : (k + 1) * 8 = k * 8 + 1 + 1 + 1 + 1 + 1 + 1 + 1 + 1 := by omega
      rw [e1]
      simpa [octCells] using h
theorem Rd.oct {w : World} {n k : Nat} {A : Option Addr} {xs : List Oct} (h : Rd w 8 A n (octCells xs)) (hk : k < n) :
    ∃ b o, A = some ⟨b, o, none⟩ ∧ b < w.heap.size ∧ ∃ hx : k < xs.length, w.cell? ⟨b, o + k * 8, none⟩ = some (.int .i64 (xs[k]).1.1) ∧ w.cell? ⟨b, o + k * 8 + 1, none⟩ = some (.int .i64 (xs[k]).1.2.1) ∧ w.cell? ⟨b, o + k * 8 + 2, none⟩ = some (.int .i64 (xs[k]).1.2.2.1) ∧ w.cell? ⟨b, o + k * 8 + 3, none⟩ = some (.int .i64 (xs[k]).1.2.2.2)
      ∧ w.cell? ⟨b, o + k * 8 + 4, none⟩ = some (.int .i64 (xs[k]).2.1) ∧ w.cell? ⟨b, o + k * 8 + 5, none⟩ = some (.int .i64 (xs[k]).2.2.1) ∧ w.cell? ⟨b, o + k * 8 + 6, none⟩ = some (.int .i64 (xs[k]).2.2.2.1) ∧ w.cell? ⟨b, o + k * 8 + 7, none⟩ = some (.int .i64 (xs[k]).2.2.2.2) := by
  obtain ⟨b, o, e, hl, hc⟩ := h.2 (by omega)
  have hx : k < xs.length := by have := h.1; rw [length_octCells] at this; omega
  obtain ⟨h1, h2, h3, h4, h5, h6, h7, h8⟩ := octCells_at xs k hx
  exact ⟨b, o, e, hl, hx, hc _ _ h1, by have := hc _ _ h2; rwa [← Nat.add_assoc] at this, by have := hc _ _ h3; rwa [← Nat.add_assoc] at this, by have := hc _ _ h4; rwa [← Nat.add_assoc] at this, by have := hc _ _ h5; rwa [← Nat.add_assoc] at this, by have := hc _ _ h6; rwa [← Nat.add_assoc] at this, by have := hc _ _ h7; rwa [← Nat.add_assoc] at this, by have := hc _ _ h8; rwa [← Nat.add_assoc] at this⟩
theorem new8 (w : World) (ty : TypeId) (a b c d e f g h : Value) : ∀ (j : Nat) (u : Value), [a, b, c, d, e, f, g, h][j]? = some u → (w.alloc (.cells #[a, b, c, d, e, f, g, h] ty)).cell? ((⟨w.heap.size, 0, none⟩ : Addr).add j) = some u := by
  intro j u hj
  match j, hj with
  | 0, hj => simp at hj; subst hj; simp [Addr.add, go_sem]
  | 1, hj => simp at hj; subst hj; simp [Addr.add, go_sem]
  | 2, hj => simp at hj; subst hj; simp [Addr.add, go_sem]
  | 3, hj => simp at hj; subst hj; simp [Addr.add, go_sem]
  | 4, hj => simp at hj; subst hj; simp [Addr.add, go_sem]
  | 5, hj => simp at hj; subst hj; simp [Addr.add, go_sem]
  | 6, hj => simp at hj; subst hj; simp [Addr.add, go_sem]
  | 7, hj => simp at hj; subst hj; simp [Addr.add, go_sem]
theorem eight_oneCell (a b c d e f g h : Int) : ∀ u ∈ [Value.int .i64 a, Value.int .i64 b, Value.int .i64 c, Value.int .i64 d, Value.int .i64 e, Value.int .i64 f, Value.int .i64 g, Value.int .i64 h], u.oneCell' = true := by
  intro u hu; simp at hu; rcases hu with rfl | rfl | rfl | rfl | rfl | rfl | rfl | rfl <;> rfl

def downL (x y a b : Nat) : Nat → List Oct
  | 0 => []
  | k + 1 => downL x y a b k ++ [(((x : Int), (y : Int), ((k + 1 : Nat) : Int), (b : Int)), (((x + (k + 1) : Nat) : Int), (y : Int), ((a - (k + 1) : Nat) : Int), (b : Int)))]
def acrL (x y a b : Nat) : Nat → List Oct
  | 0 => []
  | k + 1 => acrL x y a b k ++ [(((x : Int), (y : Int), (a : Int), ((k + 1 : Nat) : Int)), ((x : Int), ((y + (k + 1) : Nat) : Int), (a : Int), ((b - (k + 1) : Nat) : Int)))]
def brkL (x y a b : Nat) : List Oct := downL x y a b (a - 1) ++ acrL x y a b (b - 1)
theorem length_downL (x y a b k : Nat) : (downL x y a b k).length = k := by
  induction k with
  | zero => rfl
  | succ k ih => simp [downL, ih]
theorem length_acrL (x y a b k : Nat) : (acrL x y a b k).length = k := by
  induction k with
  | zero => rfl
  | succ k ih => simp [acrL, ih]
theorem length_brkL (x y a b : Nat) : (brkL x y a b).length = (a - 1) + (b - 1) := by simp [brkL, length_downL, length_acrL]
theorem downL_at (x y a b : Nat) : ∀ (k i : Nat) (h : i < (downL x y a b k).length), (downL x y a b k)[i] = (((x : Int), (y : Int), ((i + 1 : Nat) : Int), (b : Int)), (((x + (i + 1) : Nat) : Int), (y : Int), ((a - (i + 1) : Nat) : Int), (b : Int)))
  | 0, i, h => by simp [downL] at h
  | k + 1, i, h => by
    rw [length_downL] at h
    by_cases e : i = k
    · subst e
      simp [downL, List.getElem_append_right, length_downL]
    · have h2 : i < (downL x y a b k).length := by rw [length_downL]; omega
      have := downL_at x y a b k i h2
      simp only [downL]
      rw [List.getElem_append_left h2, this]
theorem acrL_at (x y a b : Nat) : ∀ (k i : Nat) (h : i < (acrL x y a b k).length), (acrL x y a b k)[i] = (((x : Int), (y : Int), (a : Int), ((i + 1 : Nat) : Int)), ((x : Int), ((y + (i + 1) : Nat) : Int), (a : Int), ((b - (i + 1) : Nat) : Int)))
  | 0, i, h => by simp [acrL] at h
  | k + 1, i, h => by
    rw [length_acrL] at h
    by_cases e : i = k
    · subst e
      simp [acrL, List.getElem_append_right, length_acrL]
    · have h2 : i < (acrL x y a b k).length := by rw [length_acrL]; omega
      have := acrL_at x y a b k i h2
      simp only [acrL]
      rw [List.getElem_append_left h2, this]

theorem oct_info : (Try.prog.info? 90).map (fun i => (i.zero, i.size, i.bytes)) = some (some (.agg #[.int .i64 0, .int .i64 0, .int .i64 0, .int .i64 0, .int .i64 0, .int .i64 0, .int .i64 0, .int .i64 0]), 8, 64) := by kernel_rfl

set_option maxRecDepth 100000 in
set_option maxHeartbeats 4000000 in
theorem breaksOfPart_any (x y a b : Nat) (w : World) (ha : 1 ≤ a) (ha8 : a ≤ 8) (hb : 1 ≤ b) (hb8 : b ≤ 8) (hx : x ≤ 8) (hy : y ≤ 8) :
    Calls Try.prog 57 #[part4 x y a b] w fun e w' => ∃ A n c, e = .returned (.slice A n c) ∧ w'.ownsRow w.heap.size 90 8 (.slice A n c) n (octCells (brkL x y a b)) ∧ Below w.heap.size w w' := by
  obtain ⟨i0, hi, hz0, hz1, hz2⟩ := info_parts oct_info
  have hB : barB (a : Int) (b : Int) = true := by simp [barB]; omega
  have HBB := Lib.hid hB
  clear hB
  have bw0 : Below w.heap.size w (w.alloc (.cells #[.int .i64 x, .int .i64 y, .int .i64 a, .int .i64 b] 70)) := by (repeat (first | (with_reducible exact Below.refl _ _) | (with_reducible assumption) | (with_reducible refine Below.drew ?_) | ((with_reducible refine balloc ?_ _ ?_); · (first | (simp; done) | (simp; omega) | omega)) | ((with_reducible refine bset ?_ _ ?_); · (first | (simp; done) | (simp; omega) | omega)) | (with_reducible refine bdrewN _ ?_) | ((with_reducible refine bcall ?_ (by assumption) ?_); · (first | (simp; done) | (simp; omega) | omega))))
  have c0 : (w.alloc (.cells #[.int .i64 x, .int .i64 y, .int .i64 a, .int .i64 b] 70)).cell? ⟨w.heap.size, 0, none⟩ = some (.int .i64 x) := by simp [go_sem]
  have c1 : (w.alloc (.cells #[.int .i64 x, .int .i64 y, .int .i64 a, .int .i64 b] 70)).cell? ⟨w.heap.size, 1, none⟩ = some (.int .i64 y) := by simp [go_sem]
  have c2 : (w.alloc (.cells #[.int .i64 x, .int .i64 y, .int .i64 a, .int .i64 b] 70)).cell? ⟨w.heap.size, 2, none⟩ = some (.int .i64 a) := by simp [go_sem]
  have c3 : (w.alloc (.cells #[.int .i64 x, .int .i64 y, .int .i64 a, .int .i64 b] 70)).cell? ⟨w.heap.size, 3, none⟩ = some (.int .i64 b) := by simp [go_sem]
  have sz0 : (w.alloc (.cells #[.int .i64 x, .int .i64 y, .int .i64 a, .int .i64 b] 70)).heap.size = w.heap.size + 1 := by simp
  have C0 := Lib.hid c0
  have C1 := Lib.hid c1
  have C2 := Lib.hid c2
  have C3 := Lib.hid c3
  have SZ0 := Lib.hid sz0
  clear c0 c1 c2 c3 sz0
  go_enter Try.func57, Try.ntmps57
  go_wp2
  generalize w.alloc (.cells #[.int .i64 x, .int .i64 y, .int .i64 a, .int .i64 b] 70) = W1 at *
  have sz := SZ0.out
  go_loopw [3, 4] (fun v i wr => ∃ (k : Nat) (A : Option Addr) (n c : Nat), k + 1 ≤ a ∧ i = .int .i64 ((k : Int) + 1) ∧ v = .slice A n c ∧ wr.ownsRow (w.heap.size + 1) 90 8 (.slice A n c) n (octCells (downL x y a b k)) ∧ Below (w.heap.size + 1) W1 wr) (fun _ i _ => a + 1 - (intOf i).toNat)
  case atStart => exact ⟨0, none, 0, 0, by omega, rfl, rfl, World.ownsRow_nil _ _ _ _, Below.refl _ _⟩
  case round =>
    obtain ⟨k, A1, n1, c1, hk, rfl, rfl, hown, hB⟩ := hrel
    have e0 := (hB.cell (p := ⟨w.heap.size, 0, none⟩) (by simp)).trans C0.out
    have e1 := (hB.cell (p := ⟨w.heap.size, 1, none⟩) (by simp)).trans C1.out
    have e2 := (hB.cell (p := ⟨w.heap.size, 2, none⟩) (by simp)).trans C2.out
    have e3 := (hB.cell (p := ⟨w.heap.size, 3, none⟩) (by simp)).trans C3.out
    have hn1 : n1 = k := by have := hown.1; rw [length_octCells, length_downL] at this; omega
    subst hn1
    by_cases hlt : n1 + 1 < a
    · have hle : (n1 : Int) + 1 < (a : Int) := by omega
      have hsz := hB.size
      have HO := Lib.hid hown
      have HB := Lib.hid hB
      clear hown hB
      go_wp2_with fail
      refine (partsOf_any _ _ _ _ _ HBB.out (by simp [canB, inB]; omega)).mono ?_; rintro e w2 ⟨rfl, hb2⟩
      have s2 := hb2.size
      have f0 := (hb2.cell (p := ⟨w.heap.size, 0, none⟩) (by simp; omega)).trans e0
      have f1 := (hb2.cell (p := ⟨w.heap.size, 1, none⟩) (by simp; omega)).trans e1
      have f2 := (hb2.cell (p := ⟨w.heap.size, 2, none⟩) (by simp; omega)).trans e2
      have f3 := (hb2.cell (p := ⟨w.heap.size, 3, none⟩) (by simp; omega)).trans e3
      simp only [part1, part2, if_true]
      clear e0 e1 e2 e3
      have z0 : w.heap.size < w2.heap.size := by omega
      have z1 : w.heap.size < w2.heap.size + 1 := by omega
      have z2 : w.heap.size < w2.heap.size + 1 + 1 := by omega
      have OW := own_later HO.out hb2 (Nat.le_refl _)
      have BB := (HB.out.trans (hb2.mono (by omega))).alloc (by omega) (.cells #[.int .i64 ((n1 : Int) + 1), .int .i64 b] 26)
      have BB2 := Lib.hid ((BB.alloc (by simp; omega) (.cells #[.int .i64 ((a : Int) - ((n1 : Int) + 1)), .int .i64 b] 26)).alloc (by simp; omega) (.cells #[.int .i64 x, .int .i64 y, .int .i64 ((n1 : Int) + 1), .int .i64 b, .int .i64 ((x : Int) + ((n1 : Int) + 1)), .int .i64 y, .int .i64 ((a : Int) - ((n1 : Int) + 1)), .int .i64 b] 90))
      have OW2 := Lib.hid ((OW.alloc (.cells #[.int .i64 ((n1 : Int) + 1), .int .i64 b] 26)).alloc (.cells #[.int .i64 ((a : Int) - ((n1 : Int) + 1)), .int .i64 b] 26))
      have HST : Hid (octCells (downL x y a b (n1 + 1)) = octCells (downL x y a b n1) ++ [.int .i64 x, .int .i64 y, .int .i64 ((n1 : Int) + 1), .int .i64 b, .int .i64 ((x : Int) + ((n1 : Int) + 1)), .int .i64 y, .int .i64 ((a : Int) - ((n1 : Int) + 1)), .int .i64 b]) := by
        simp only [Hid, downL, octCells_append, octCells]
        rw [show ((n1 + 1 : Nat) : Int) = (n1 : Int) + 1 by omega, show ((x + (n1 + 1) : Nat) : Int) = (x : Int) + ((n1 : Int) + 1) by omega, show ((a - (n1 + 1) : Nat) : Int) = (a : Int) - ((n1 : Int) + 1) by omega]
      clear OW BB
      have wx : IntKind.i64.wrap ((x : Int) + ((n1 : Int) + 1)) = (x : Int) + ((n1 : Int) + 1) := IntWalk.i64_in _ (by omega)
      go_wp2_with (at_builtin; refine wpList_append_own_at _ rfl (.tmp 24) (.tmp 40) 88 rfl (w.heap.size + 1) 90 i0 (.agg #[.int .i64 0, .int .i64 0, .int .i64 0, .int .i64 0, .int .i64 0, .int .i64 0, .int .i64 0, .int .i64 0]) 8 64 Try.underlying88 hi hz0 hz1 hz2 rfl (by decide) _ _ _ rfl (OW2.out.alloc _) ⟨w2.heap.size + 1 + 1, 0, none⟩ 1 1 [.int .i64 x, .int .i64 y, .int .i64 ((n1 : Int) + 1), .int .i64 b, .int .i64 ((x : Int) + ((n1 : Int) + 1)), .int .i64 y, .int .i64 ((a : Int) - ((n1 : Int) + 1)), .int .i64 b] rfl rfl ?c1 ?c2 ?c3 ?c4 ?c5 ?_)
      case c1 =>
        have h8 := new8 ((w2.alloc (.cells #[.int .i64 ((n1 : Int) + 1), .int .i64 b] 26)).alloc (.cells #[.int .i64 ((a : Int) - ((n1 : Int) + 1)), .int .i64 b] 26)) 90 (.int .i64 x) (.int .i64 y) (.int .i64 ((n1 : Int) + 1)) (.int .i64 b) (.int .i64 ((x : Int) + ((n1 : Int) + 1))) (.int .i64 y) (.int .i64 ((a : Int) - ((n1 : Int) + 1))) (.int .i64 b)
        rw [show ((w2.alloc (.cells #[.int .i64 ((n1 : Int) + 1), .int .i64 b] 26)).alloc (.cells #[.int .i64 ((a : Int) - ((n1 : Int) + 1)), .int .i64 b] 26)).heap.size = w2.heap.size + 1 + 1 by simp] at h8
        exact h8
      case c2 => exact eight_oneCell _ _ _ _ _ _ _ _
      case c3 => simp only [maxLen]; omega
      case c4 => omega
      case c5 => simp; omega
      · intro v' w5 hown' hgrow _ hat
        obtain ⟨A', c', rfl⟩ := own_slice hown'
        have hb5 := bgrow BB2.out (OW2.out.alloc _) hgrow (by simp; omega)
        rw [← HST.out] at hown'
        have HO5 := Lib.hid hown'
        have HB5 := Lib.hid hb5
        clear hown' hb5 hgrow hat HO HB BB2 OW2 HST f0 f1 f2 f3
        go_wp2
        go_roundw
        case rel => exact ⟨n1 + 1, A', n1 + 1, c', by omega, by go_num, rfl, HO5.out, HB5.out⟩
        case measure => simp [intOf]; omega
    · obtain rfl : a = n1 + 1 := by omega
      have HO := Lib.hid hown
      have HB := Lib.hid hB
      clear hown hB
      go_wp2
      clear e0 e1 e2 e3
      go_loopw [3, 7] (fun v i wr => ∃ (k : Nat) (A : Option Addr) (n c : Nat), k + 1 ≤ b ∧ i = .int .i64 ((k : Int) + 1) ∧ v = .slice A n c ∧ wr.ownsRow (w.heap.size + 1) 90 8 (.slice A n c) n (octCells (downL x y (n1 + 1) b n1 ++ acrL x y (n1 + 1) b k)) ∧ Below (w.heap.size + 1) W1 wr) (fun _ i _ => b + 1 - (intOf i).toNat)
      case atStart => exact ⟨0, A1, n1, c1, by omega, rfl, rfl, by simp only [acrL, List.append_nil]; exact HO.out, HB.out⟩
      case round =>
        clear HO HB
        obtain ⟨k, A2, n2, c2, hk2, rfl, rfl, hown, hB⟩ := hrel
        have e0 := (hB.cell (p := ⟨w.heap.size, 0, none⟩) (by simp)).trans C0.out
        have e1 := (hB.cell (p := ⟨w.heap.size, 1, none⟩) (by simp)).trans C1.out
        have e2 := (hB.cell (p := ⟨w.heap.size, 2, none⟩) (by simp)).trans C2.out
        have e3 := (hB.cell (p := ⟨w.heap.size, 3, none⟩) (by simp)).trans C3.out
        have hn2 : n2 = n1 + k := by have := hown.1; rw [length_octCells, List.length_append, length_downL, length_acrL] at this; omega
        have HN2 := Lib.hid hn2
        have hn2b : n2 ≤ 100 := by omega
        clear hn2
        by_cases hlt2 : k + 1 < b
        · have hle : (k : Int) + 1 < (b : Int) := by omega
          have hsz := hB.size
          have HO := Lib.hid hown
          have HB := Lib.hid hB
          clear hown hB
          go_wp2_with fail
          refine (partsOf_any _ _ _ _ _ HBB.out (by simp [canB, inB]; omega)).mono ?_; rintro e w2 ⟨rfl, hb2⟩
          have s2 := hb2.size
          have f0 := (hb2.cell (p := ⟨w.heap.size, 0, none⟩) (by simp; omega)).trans e0
          have f1 := (hb2.cell (p := ⟨w.heap.size, 1, none⟩) (by simp; omega)).trans e1
          have f2 := (hb2.cell (p := ⟨w.heap.size, 2, none⟩) (by simp; omega)).trans e2
          have f3 := (hb2.cell (p := ⟨w.heap.size, 3, none⟩) (by simp; omega)).trans e3
          simp only [part1, part2, Bool.false_eq_true, if_false]
          clear e0 e1 e2 e3
          have z0 : w.heap.size < w2.heap.size := by omega
          have z1 : w.heap.size < w2.heap.size + 1 := by omega
          have z2 : w.heap.size < w2.heap.size + 1 + 1 := by omega
          have OW := own_later HO.out hb2 (Nat.le_refl _)
          have BB := (HB.out.trans (hb2.mono (by omega))).alloc (by omega) (.cells #[.int .i64 ((n1 + 1 : Nat) : Int), .int .i64 ((k : Int) + 1)] 26)
          have BB2 := Lib.hid ((BB.alloc (by simp; omega) (.cells #[.int .i64 ((n1 + 1 : Nat) : Int), .int .i64 ((b : Int) - ((k : Int) + 1))] 26)).alloc (by simp; omega) (.cells #[.int .i64 x, .int .i64 y, .int .i64 ((n1 + 1 : Nat) : Int), .int .i64 ((k : Int) + 1), .int .i64 x, .int .i64 ((y : Int) + ((k : Int) + 1)), .int .i64 ((n1 + 1 : Nat) : Int), .int .i64 ((b : Int) - ((k : Int) + 1))] 90))
          have OW2 := Lib.hid ((OW.alloc (.cells #[.int .i64 ((n1 + 1 : Nat) : Int), .int .i64 ((k : Int) + 1)] 26)).alloc (.cells #[.int .i64 ((n1 + 1 : Nat) : Int), .int .i64 ((b : Int) - ((k : Int) + 1))] 26))
          have HST : Hid (octCells (downL x y (n1 + 1) b n1 ++ acrL x y (n1 + 1) b (k + 1)) = octCells (downL x y (n1 + 1) b n1 ++ acrL x y (n1 + 1) b k) ++ [.int .i64 x, .int .i64 y, .int .i64 ((n1 + 1 : Nat) : Int), .int .i64 ((k : Int) + 1), .int .i64 x, .int .i64 ((y : Int) + ((k : Int) + 1)), .int .i64 ((n1 + 1 : Nat) : Int), .int .i64 ((b : Int) - ((k : Int) + 1))]) := by
            simp only [Hid, acrL, octCells_append, octCells, List.append_assoc]
            rw [show ((k + 1 : Nat) : Int) = (k : Int) + 1 by omega, show ((y + (k + 1) : Nat) : Int) = (y : Int) + ((k : Int) + 1) by omega, show ((b - (k + 1) : Nat) : Int) = (b : Int) - ((k : Int) + 1) by omega]
          clear OW BB
          have wx : IntKind.i64.wrap ((y : Int) + ((k : Int) + 1)) = (y : Int) + ((k : Int) + 1) := IntWalk.i64_in _ (by omega)
          obtain ⟨m, hm⟩ : ∃ m : Int, m = ((n1 + 1 : Nat) : Int) := ⟨_, rfl⟩
          rw [← hm] at f2 BB2 OW2 ⊢
          have HST2 : Hid (octCells (downL x y (n1 + 1) b n1 ++ acrL x y (n1 + 1) b (k + 1)) = octCells (downL x y (n1 + 1) b n1 ++ acrL x y (n1 + 1) b k) ++ [.int .i64 x, .int .i64 y, .int .i64 m, .int .i64 ((k : Int) + 1), .int .i64 x, .int .i64 ((y : Int) + ((k : Int) + 1)), .int .i64 m, .int .i64 ((b : Int) - ((k : Int) + 1))]) := by
            rw [hm]; exact HST
          have HM := Lib.hid hm
          clear HST hm
          go_wp2_with (at_builtin; refine wpList_append_own_at _ rfl (.tmp 56) (.tmp 72) 88 rfl (w.heap.size + 1) 90 i0 (.agg #[.int .i64 0, .int .i64 0, .int .i64 0, .int .i64 0, .int .i64 0, .int .i64 0, .int .i64 0, .int .i64 0]) 8 64 Try.underlying88 hi hz0 hz1 hz2 rfl (by decide) _ _ _ rfl (OW2.out.alloc _) ⟨w2.heap.size + 1 + 1, 0, none⟩ 1 1 [.int .i64 x, .int .i64 y, .int .i64 m, .int .i64 ((k : Int) + 1), .int .i64 x, .int .i64 ((y : Int) + ((k : Int) + 1)), .int .i64 m, .int .i64 ((b : Int) - ((k : Int) + 1))] rfl rfl ?c1 ?c2 ?c3 ?c4 ?c5 ?_)
          case c1 =>
            have h8 := new8 ((w2.alloc (.cells #[.int .i64 m, .int .i64 ((k : Int) + 1)] 26)).alloc (.cells #[.int .i64 m, .int .i64 ((b : Int) - ((k : Int) + 1))] 26)) 90 (.int .i64 x) (.int .i64 y) (.int .i64 m) (.int .i64 ((k : Int) + 1)) (.int .i64 x) (.int .i64 ((y : Int) + ((k : Int) + 1))) (.int .i64 m) (.int .i64 ((b : Int) - ((k : Int) + 1)))
            rw [show ((w2.alloc (.cells #[.int .i64 m, .int .i64 ((k : Int) + 1)] 26)).alloc (.cells #[.int .i64 m, .int .i64 ((b : Int) - ((k : Int) + 1))] 26)).heap.size = w2.heap.size + 1 + 1 by simp] at h8
            exact h8
          case c2 => exact eight_oneCell _ _ _ _ _ _ _ _
          case c3 => simp only [maxLen]; omega
          case c4 => omega
          case c5 => simp; omega
          · intro v' w5 hown' hgrow _ hat
            obtain ⟨A', c', rfl⟩ := own_slice hown'
            have hb5 := bgrow BB2.out (OW2.out.alloc _) hgrow (by simp; omega)
            rw [← HST2.out] at hown'
            have HO5 := Lib.hid hown'
            have HB5 := Lib.hid hb5
            clear hown' hb5 hgrow hat HO HB BB2 OW2 HST2 f0 f1 f2 f3
            go_wp2
            have hm := HM.out
            subst hm
            go_roundw
            case rel => exact ⟨k + 1, A', n2 + 1, c', by omega, by go_num, rfl, HO5.out, HB5.out⟩
            case measure => simp [intOf]; omega
        · obtain rfl : b = k + 1 := by omega
          go_wp2
          go_ret
          exact ⟨A2, n2, c2, rfl, own_base hown (by omega), bw0.trans (hB.mono (by omega))⟩

end Go.Proofs.Ytfbmnaepobhnkaa
