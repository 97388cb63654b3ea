/-
  Words: chosen numbers into which a number is put; rows and columns gathered place by place. Nothing of the program is named here.
-/
import Derived.Test.YtcggiekhlophlabDoorPutL
namespace Go.Proofs.YtcggiekhlophlabDoor
open Go.RowKit
set_option linter.unusedVariables false
set_option linter.unusedSimpArgs false

theorem selL_congr {p q : Nat → Bool} {k : Nat} (h : ∀ x, x < k → p x = q x) : selL p k = selL q k := by
  unfold selL
  congr 1
  exact List.filter_congr fun x hx => h x (by simpa using hx)
theorem selL_mem {p : Nat → Bool} {k : Nat} {z : Int} (h : z ∈ selL p k) : 0 ≤ z ∧ z < k := by
  simp only [selL, List.mem_map, List.mem_filter, List.mem_range] at h
  obtain ⟨x, ⟨h1, _⟩, rfl⟩ := h
  omega
/-- what lies behind x -/
def selH (p : Nat → Bool) (x b : Nat) : List Int := (((List.range b).map fun i => x + 1 + i).filter p).map fun (i : Nat) => (i : Int)
theorem selH_mem {p : Nat → Bool} {x b : Nat} {z : Int} (h : z ∈ selH p x b) : (x : Int) < z := by
  simp only [selH, List.mem_map, List.mem_filter, List.mem_range] at h
  obtain ⟨y, ⟨⟨i, _, rfl⟩, _⟩, rfl⟩ := h
  omega
theorem selL_split (p : Nat → Bool) (x b : Nat) : selL p (x + 1 + b) = selL p x ++ ((if p x then [(x : Int)] else []) ++ selH p x b) := by
  unfold selL selH
  rw [List.range_add, List.filter_append, List.map_append, List.range_succ, List.filter_append, List.map_append, List.append_assoc]
  congr 1
  cases h : p x <;> simp [List.filter_cons, h]
theorem putI_mid {a h : List Int} {v : Int} (h1 : ∀ z ∈ a, z < v) (h2 : ∀ z ∈ h, v < z) : putI (a ++ h) v = a ++ v :: h ∧ putI (a ++ v :: h) v = a ++ v :: h := by
  have pa : ∀ j, j < a.length → ∀ z (r : List Int), (a ++ r)[j]? = some z → z < v := fun j hj z r hz => by
    rw [List.getElem?_append_left hj] at hz
    exact h1 z (List.mem_of_getElem? hz)
  constructor
  · have e : putAt (a ++ h) v = a.length := putAt_eq (by simp) (fun j hj z hz => pa j hj z h hz) (fun z hz => by
      rw [List.getElem?_append_right (Nat.le_refl _), Nat.sub_self] at hz
      have := h2 z (List.mem_of_getElem? hz); omega)
    have hn : (a ++ h)[a.length]? ≠ some v := fun hz => by
      rw [List.getElem?_append_right (Nat.le_refl _), Nat.sub_self] at hz
      have := h2 v (List.mem_of_getElem? hz); omega
    rw [putI, e, if_neg hn, List.take_left, List.drop_left]
  · have e : putAt (a ++ v :: h) v = a.length := putAt_eq (by simp) (fun j hj z hz => pa j hj z (v :: h) hz) (fun z hz => by
      rw [List.getElem?_append_right (Nat.le_refl _), Nat.sub_self] at hz
      simp at hz; omega)
    have hn : (a ++ v :: h)[a.length]? = some v := by
      rw [List.getElem?_append_right (Nat.le_refl _), Nat.sub_self]; rfl
    rw [putI, e, if_pos hn]
/-- a number put among the chosen ones -/
theorem putI_sel (p : Nat → Bool) {x W : Nat} (hx : x < W) : putI (selL p W) x = selL (fun z => p z || z == x) W := by
  obtain ⟨b, rfl⟩ : ∃ b, W = x + 1 + b := ⟨W - x - 1, by omega⟩
  have e1 : selL (fun z => p z || z == x) x = selL p x := selL_congr fun z hz => by
    have : (z == x) = false := by simp; omega
    rw [this, Bool.or_false]
  have e2 : selH (fun z => p z || z == x) x b = selH p x b := by
    unfold selH
    congr 1
    refine List.filter_congr fun z hz => ?_
    simp only [List.mem_map, List.mem_range] at hz
    obtain ⟨i, _, rfl⟩ := hz
    have : (x + 1 + i == x) = false := by simp; omega
    rw [this, Bool.or_false]
  have hm := putI_mid (a := selL p x) (h := selH p x b) (v := x) (fun z hz => (selL_mem hz).2) (fun z hz => selH_mem hz)
  rw [selL_split p, selL_split (fun z => p z || z == x), e1, e2]
  simp only [beq_self_eq_true, Bool.or_true, if_true]
  cases p x
  · simp only [Bool.false_eq_true, if_false, List.nil_append]; rw [hm.1]; rfl
  · simp only [if_true]; exact hm.2

/-- the columns found up to a place -/
def cpB (ss : List ByteArray) (y x z : Nat) : Bool := hasX (colB (ss.take y) z) || (decide (z < x) && ((ss.getD y ByteArray.empty).data.toList.getD z 0 == 120))
/-- the rows found up to a place -/
def rpB (ss : List ByteArray) (y x z : Nat) : Bool := (decide (z < y) && rowP ss z) || (z == y && hasX ((ss.getD y ByteArray.empty).data.toList.take x))

theorem hasX_append (l r : List UInt8) : hasX (l ++ r) = (hasX l || hasX r) := by
  cases a : hasX l
  · cases b : hasX r
    · cases e : hasX (l ++ r)
      · rfl
      · rcases List.mem_append.1 ((hasX_iff _).1 e) with h | h
        · rw [(hasX_iff _).2 h] at a; cases a
        · rw [(hasX_iff _).2 h] at b; cases b
    · rw [(hasX_iff _).2 (List.mem_append_right _ ((hasX_iff _).1 b))]; rfl
  · rw [(hasX_iff _).2 (List.mem_append_left _ ((hasX_iff _).1 a))]; rfl
theorem hasX_one (b : UInt8) : hasX [b] = (b == 120) := by
  cases e : (b == 120)
  · cases h : hasX [b]
    · rfl
    · have := (hasX_iff _).1 h
      simp at this
      rw [← this] at e; simp at e
  · have hb : b = 120 := by simpa using e
    rw [hb]; rfl
theorem cpB_row {ss : List ByteArray} {y W z : Nat} (hy : y < ss.length) (hz : z < W) : cpB ss y W z = cpB ss (y + 1) 0 z := by
  unfold cpB
  rw [List.take_succ_eq_append_getElem hy]
  have e : colB (ss.take y ++ [ss[y]]) z = colB (ss.take y) z ++ [(ss[y]).data.toList.getD z 0] := by unfold colB; rw [List.map_append]; rfl
  rw [e, hasX_append, hasX_one]
  have e2 : ss.getD y ByteArray.empty = ss[y] := by simp [List.getD, List.getElem?_eq_getElem hy]
  rw [e2]
  simp [hz]
theorem cpB_start (ss : List ByteArray) (z : Nat) : cpB ss 0 0 z = false := by simp [cpB, colB, hasX, Lib.indexByte]
theorem cpB_end (ss : List ByteArray) {n : Nat} (h : ss.length = n) (z : Nat) : cpB ss n 0 z = colP ss z := by
  subst h
  simp [cpB, colP]
theorem cpB_next {ss : List ByteArray} {y x : Nat} {b : UInt8} (hb : (ss.getD y ByteArray.empty).data.toList.getD x 0 = b) (z : Nat) : cpB ss y (x + 1) z = (cpB ss y x z || (z == x && b == 120)) := by
  unfold cpB
  by_cases e : z = x
  · subst e
    rw [hb]; simp
  · have h1 : (z == x) = false := by simp [e]
    have h2 : decide (z < x + 1) = decide (z < x) := by
      have : z < x + 1 ↔ z < x := by omega
      simp [this]
    rw [h1, h2]; simp
theorem rpB_start (ss : List ByteArray) (y z : Nat) : rpB ss y 0 z = (decide (z < y) && rowP ss z) := by simp [rpB, hasX, Lib.indexByte]
theorem rpB_row {ss : List ByteArray} {y W : Nat} (hW : (ss.getD y ByteArray.empty).data.toList.length ≤ W) (z : Nat) : rpB ss y W z = rpB ss (y + 1) 0 z := by
  rw [rpB_start]
  unfold rpB
  rw [List.take_of_length_le hW]
  by_cases e : z = y
  · subst e; simp [rowP]
  · have h1 : (z == y) = false := by simp [e]
    have h2 : decide (z < y + 1) = decide (z < y) := by
      have : z < y + 1 ↔ z < y := by omega
      simp [this]
    rw [h1, h2]; simp
theorem rpB_next {ss : List ByteArray} {y x : Nat} {b : UInt8} (hx : x < (ss.getD y ByteArray.empty).data.toList.length) (hb : (ss.getD y ByteArray.empty).data.toList[x] = b) (z : Nat) : rpB ss y (x + 1) z = (rpB ss y x z || (z == y && b == 120)) := by
  unfold rpB
  rw [hasX_take hx, hb]
  cases (z == y) <;> simp [Bool.or_assoc]
theorem rpB_end (ss : List ByteArray) {n z : Nat} (hz : z < n) : rpB ss n 0 z = rowP ss z := by rw [rpB_start]; simp [hz]
end Go.Proofs.YtcggiekhlophlabDoor
