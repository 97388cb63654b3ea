/-
  Words for the squares of a bar with nuts: what is known of a list of texts that is one. Nothing of the program is named here.
-/
import Derived.Test.YtobncknlipeinaaNuts
namespace Go.Proofs.Ytobncknlipeinaa
open Go.RowKit

/-- the digit at a square -/
def nutByte (ss : List ByteArray) (y x : Nat) : UInt8 := ((ss[y]?.getD ByteArray.empty).data[x]?).getD 48
/-- the nuts in a square -/
def nutV (ss : List ByteArray) (y x : Nat) : Nat := (nutByte ss y x).toNat - 48

/-- a bar with nuts of W columns and H rows -/
structure NB (ss : List ByteArray) (W H : Nat) : Prop where
  len : ss.length = H
  h1 : 1 ≤ H
  h8 : H ≤ 8
  w1 : 1 ≤ W
  w8 : W ≤ 8
  row : ∀ s ∈ ss, s.size = W ∧ s.data.toList.all digB = true

/-- the columns -/
def nutW (ss : List ByteArray) : Nat := (ss.headD ByteArray.empty).size

theorem NB.of {ss : List ByteArray} (h : nutsB ss = true) : NB ss (nutW ss) ss.length := by
  simp only [nutsB, Bool.and_eq_true, decide_eq_true_eq] at h
  obtain ⟨⟨a, b⟩, c⟩ := h
  have c' : ∀ s ∈ ss, okR (ss.headD ByteArray.empty) s = true := List.all_eq_true.1 c
  have r : ∀ s ∈ ss, s.size = nutW ss ∧ s.data.toList.all digB = true ∧ 1 ≤ s.size ∧ s.size ≤ 8 := by
    intro s hs
    have q := c' s hs
    simp only [okR, rowB, Bool.and_eq_true, decide_eq_true_eq] at q
    exact ⟨q.1, q.2.2, q.2.1.1, q.2.1.2⟩
  have q0 := r _ (List.getElem_mem (l := ss) (n := 0) (by omega))
  exact ⟨rfl, a, b, by have := q0.1; omega, by have := q0.1; omega, fun s hs => ⟨(r s hs).1, (r s hs).2.1⟩⟩

theorem NB.headW {ss : List ByteArray} {W H : Nat} (h : NB ss W H) : nutW ss = W := by
  have hl : 0 < ss.length := by have := h.len; have := h.h1; omega
  unfold nutW
  rw [headD_at hl]
  exact (h.row _ (List.getElem_mem hl)).1

theorem NB.good {ss : List ByteArray} {W H : Nat} (h : NB ss W H) : nutsB ss = true := by
  have hl : 0 < ss.length := by have := h.len; have := h.h1; omega
  refine nutsB_good hl (by have := h.len; have := h.h8; omega) rfl ?_
  rw [List.all_eq_true]
  intro s hs
  obtain ⟨a, b⟩ := h.row s hs
  have a0 := (h.row _ (List.getElem_mem hl)).1
  have := h.w1
  have := h.w8
  simp only [okR, rowB, Bool.and_eq_true, decide_eq_true_eq]
  exact ⟨by omega, by omega, b⟩

theorem nutByte_at {ss : List ByteArray} {y x : Nat} (hy : y < ss.length) (hx : x < (ss[y]).size) : (ss[y])[x] = nutByte ss y x := by
  unfold nutByte
  rw [List.getElem?_eq_getElem hy, Option.getD_some, Array.getElem?_eq_getElem (by exact hx), Option.getD_some]
  rfl

theorem NB.byte {ss : List ByteArray} {W H : Nat} (h : NB ss W H) {y x : Nat} (hy : y < H) (hx : x < W) : 48 ≤ (nutByte ss y x).toNat ∧ (nutByte ss y x).toNat ≤ 57 := by
  have hy' : y < ss.length := by rw [h.len]; exact hy
  obtain ⟨a, b⟩ := h.row _ (List.getElem_mem hy')
  have hx' : x < (ss[y]).size := by rw [a]; exact hx
  rw [← nutByte_at hy' hx']
  have q := List.all_eq_true.1 b ((ss[y]).data.toList[x]'(by simpa using hx')) (List.getElem_mem _)
  simp only [digB, decide_eq_true_eq] at q
  exact q
theorem NB.val_le {ss : List ByteArray} {W H : Nat} (h : NB ss W H) {y x : Nat} (hy : y < H) (hx : x < W) : nutV ss y x ≤ 9 := by
  have := h.byte hy hx
  unfold nutV
  omega

/-- a square read out of memory -/
theorem Rd.nut {w : World} {n b o W : Nat} {ss : List ByteArray} (hr : Rd w 1 (some ⟨b, o, none⟩) n (strCells ss)) (h : NB ss W n) {y x : Nat} (hy : y < n) (hx : x < W) :
    ∃ s : ByteArray, w.cell? ⟨b, o + y, none⟩ = some (.string s) ∧ Hid (s.size = W) ∧ ∃ hs : x < s.size, 48 ≤ (s[x]).toNat ∧ (s[x]).toNat ≤ 57 ∧ Hid (s[x] = nutByte ss y x) ∧ Hid (((s[x]).toNat : Int) - 48 = (nutV ss y x : Nat)) := by
  obtain ⟨hy', hc⟩ := hr.strAt hy
  have a := (h.row _ (List.getElem_mem hy')).1
  have hx' : x < (ss[y]).size := by rw [a]; exact hx
  have q := h.byte hy hx
  refine ⟨ss[y], hc, a, hx', ?_, ?_, nutByte_at hy' hx', ?_⟩
  · rw [nutByte_at hy' hx']; exact q.1
  · rw [nutByte_at hy' hx']; exact q.2
  · simp only [Hid, nutByte_at hy' hx', nutV]
    omega

/-- the first row read out of memory -/
theorem Rd.nut0 {w : World} {n W : Nat} {A : Option Addr} {ss : List ByteArray} (hr : Rd w 1 A n (strCells ss)) (h : NB ss W n) :
    ∃ b o, A = some ⟨b, o, none⟩ ∧ b < w.heap.size ∧ ∃ s : ByteArray, w.cell? ⟨b, o, none⟩ = some (.string s) ∧ Hid (s.size = W) ∧ Hid (∀ x (hx : x < s.size), 48 ≤ (s[x]).toNat ∧ (s[x]).toNat ≤ 57) := by
  obtain ⟨b, o, rfl, hb, hx, hc⟩ := hr.str h.h1
  rw [Nat.add_zero] at hc
  have a := (h.row _ (List.getElem_mem hx)).1
  refine ⟨b, o, rfl, hb, ss[0], hc, a, fun x hx' => ?_⟩
  rw [nutByte_at hx hx']
  exact h.byte h.h1 (by rw [a] at hx'; exact hx')

/-- sums of natural numbers: n of them, from a on -/
def rs (f : Nat → Nat) (a : Nat) : Nat → Nat
  | 0 => 0
  | k + 1 => rs f a k + f (a + k)
theorem rs_le {f : Nat → Nat} {a m : Nat} (n : Nat) (h : ∀ i, i < n → f (a + i) ≤ m) : rs f a n ≤ m * n := by
  induction n with
  | zero => simp [rs]
  | succ n ih =>
    have h1 := ih (fun i hi => h i (by omega))
    have h2 := h n (by omega)
    simp only [rs, Nat.mul_add, Nat.mul_one]
    omega
theorem rs_congr {f g : Nat → Nat} {a : Nat} (n : Nat) (h : ∀ i, i < n → f (a + i) = g (a + i)) : rs f a n = rs g a n := by
  induction n with
  | zero => rfl
  | succ n ih => simp only [rs]; rw [ih (fun i hi => h i (by omega)), h n (by omega)]
theorem rs_split (f : Nat → Nat) (a n m : Nat) : rs f a (n + m) = rs f a n + rs f (a + n) m := by
  induction m with
  | zero => simp [rs]
  | succ m ih =>
    rw [← Nat.add_assoc]
    simp only [rs, ih, Nat.add_assoc]
theorem rs_add (f g : Nat → Nat) (a n : Nat) : rs (fun i => f i + g i) a n = rs f a n + rs g a n := by
  induction n with
  | zero => rfl
  | succ n ih => simp only [rs, ih]; omega
theorem rs_swap (f : Nat → Nat → Nat) (a n b m : Nat) : rs (fun i => rs (f i) b m) a n = rs (fun j => rs (fun i => f i j) a n) b m := by
  induction n with
  | zero =>
    simp only [rs]
    induction m with
    | zero => rfl
    | succ m ih => simp only [rs, ← ih]
  | succ n ih => simp only [rs, ih, rs_add]

/-- the nuts of a part: from x, y on, so wide and high -/
def rect (ss : List ByteArray) (x y w h : Nat) : Nat := rs (fun j => rs (nutV ss j) x w) y h
theorem rect_le {ss : List ByteArray} {W H x y w h : Nat} (hn : NB ss W H) (hx : x + w ≤ W) (hy : y + h ≤ H) : rect ss x y w h ≤ 9 * w * h :=
  rs_le h fun j hj => rs_le w fun i hi => hn.val_le (by omega) (by omega)
theorem rect_576 {ss : List ByteArray} {W H x y w h : Nat} (hn : NB ss W H) (hx : x + w ≤ W) (hy : y + h ≤ H) : rect ss x y w h ≤ 576 := by
  have h1 := rect_le hn hx hy
  have a : w ≤ 8 := by have := hn.w8; omega
  have b : h ≤ 8 := by have := hn.h8; omega
  have c : 9 * w * h ≤ 72 * 8 := Nat.mul_le_mul (by omega) b
  omega

end Go.Proofs.Ytobncknlipeinaa
