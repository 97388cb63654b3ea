/-
  Words for tablets: texts of two signs, the tablet of a function, what is read of one. Nothing of the program is named here.
-/
import Derived.Test.YtieiakljholkaaaStrs
namespace Go.Proofs.Ytieiakljholkaaa
open Go.RowKit
set_option linter.unusedVariables false

def sqB (b : UInt8) : Bool := b == 35 || b == 46
def sgn (b : Bool) : UInt8 := if b then 35 else 46
/-- the row of a function -/
def rowF (W : Nat) (f : Nat → Bool) : ByteArray := ⟨((List.range W).map fun x => sgn (f x)).toArray⟩
/-- the tablet of a function: W wide, n high -/
def tabF (W n : Nat) (g : Nat → Nat → Bool) : List ByteArray := (List.range n).map fun y => rowF W (g y)
/-- the first m squares of a function, row by row -/
def isF (W m : Nat) (g : Nat → Nat → Bool) : List Bool := (List.range m).map fun k => g (k / W) (k % W)
def boolCells (l : List Bool) : List Value := l.map Value.bool
theorem length_boolCells (l : List Bool) : (boolCells l).length = l.length := by simp [boolCells]
theorem boolCells_append (l r : List Bool) : boolCells (l ++ r) = boolCells l ++ boolCells r := by simp [boolCells]
theorem bool_oneCell (l : List Bool) : ∀ u ∈ boolCells l, u.oneCell' = true := by
  intro u hu; simp [boolCells] at hu; rcases hu with ⟨_, rfl⟩ | ⟨_, rfl⟩ <;> rfl
theorem length_isF (W m : Nat) (g : Nat → Nat → Bool) : (isF W m g).length = m := by simp [isF]
theorem isF_succ (W m : Nat) (g : Nat → Nat → Bool) : isF W (m + 1) g = isF W m g ++ [g (m / W) (m % W)] := by simp [isF, List.range_succ]
theorem length_tabF (W n : Nat) (g : Nat → Nat → Bool) : (tabF W n g).length = n := by simp [tabF]
theorem tabF_succ (W n : Nat) (g : Nat → Nat → Bool) : tabF W (n + 1) g = tabF W n g ++ [rowF W (g n)] := by simp [tabF, List.range_succ]
theorem size_rowF (W : Nat) (f : Nat → Bool) : (rowF W f).size = W := by
  show ((List.range W).map fun x => sgn (f x)).toArray.size = W
  simp
theorem rowF_succ (W : Nat) (f : Nat → Bool) : rowF (W + 1) f = rowF W f ++ ⟨#[sgn (f W)]⟩ := by
  apply ByteArray.ext
  simp [rowF, List.range_succ]
theorem rowF_congr {W : Nat} {f g : Nat → Bool} (h : ∀ x, x < W → f x = g x) : rowF W f = rowF W g := by
  unfold rowF
  congr 2
  apply List.map_congr_left
  intro x hx
  rw [h x (List.mem_range.1 hx)]
theorem tabF_congr {W n : Nat} {g g' : Nat → Nat → Bool} (h : ∀ y, y < n → ∀ x, x < W → g y x = g' y x) : tabF W n g = tabF W n g' := by
  unfold tabF
  apply List.map_congr_left
  intro y hy
  exact rowF_congr (h y (List.mem_range.1 hy))
theorem isF_congr {W n : Nat} {g g' : Nat → Nat → Bool} (hW : 0 < W) (h : ∀ y, y < n → ∀ x, x < W → g y x = g' y x) : isF W (n * W) g = isF W (n * W) g' := by
  unfold isF
  apply List.map_congr_left
  intro k hk
  exact h _ (Nat.div_lt_of_lt_mul (by rw [Nat.mul_comm]; exact List.mem_range.1 hk)) _ (Nat.mod_lt _ hW)
theorem isF_at {W m k : Nat} {g : Nat → Nat → Bool} (h : k < (isF W m g).length) : (isF W m g)[k] = g (k / W) (k % W) := by simp [isF]
theorem divmod_at {W y x : Nat} (hx : x < W) : (y * W + x) / W = y ∧ (y * W + x) % W = x := by
  have hW : 0 < W := by omega
  constructor
  · rw [Nat.mul_comm, Nat.mul_add_div hW, Nat.div_eq_of_lt hx, Nat.add_zero]
  · rw [Nat.mul_comm, Nat.mul_add_mod, Nat.mod_eq_of_lt hx]
theorem lin_lt {W n y x : Nat} (hy : y < n) (hx : x < W) : y * W + x < n * W := by
  have h1 : y * W + W ≤ n * W := by rw [← Nat.succ_mul]; exact Nat.mul_le_mul_right W hy
  omega

/-- whether there is a square -/
def tq (ss : List ByteArray) (y x : Nat) : Bool := ((ss[y]?.getD ByteArray.empty).data[x]?.getD 46) == 35

def tabW (ss : List ByteArray) : Nat := (ss.headD ByteArray.empty).size
def trowB (s : ByteArray) : Bool := decide (1 ≤ s.size ∧ s.size ≤ 10) && s.data.toList.all sqB
def tokR (W : Nat) (s : ByteArray) : Bool := decide (s.size = W) && trowB s
/-- whether a list of texts is a tablet -/
def tabB (ss : List ByteArray) : Bool := decide (1 ≤ ss.length ∧ ss.length ≤ 10) && ss.all (tokR (tabW ss))

/-- a tablet of W columns and n rows -/
structure TB (ss : List ByteArray) (W n : Nat) : Prop where
  len : ss.length = n
  h1 : 1 ≤ n
  h10 : n ≤ 10
  w1 : 1 ≤ W
  w10 : W ≤ 10
  row : ∀ s ∈ ss, s.size = W ∧ s.data.toList.all sqB = true

theorem tabW_at {ss : List ByteArray} (h : 0 < ss.length) : tabW ss = (ss[0]).size := by
  cases ss with
  | nil => simp at h
  | cons a r => rfl
theorem TB.of {ss : List ByteArray} (h : tabB ss = true) : TB ss (tabW ss) ss.length := by
  simp only [tabB, Bool.and_eq_true, decide_eq_true_eq] at h
  obtain ⟨⟨a, b⟩, c⟩ := h
  have c' : ∀ s ∈ ss, tokR (tabW ss) s = true := List.all_eq_true.1 c
  have r : ∀ s ∈ ss, s.size = tabW ss ∧ s.data.toList.all sqB = true ∧ 1 ≤ s.size ∧ s.size ≤ 10 := by
    intro s hs
    have q := c' s hs
    simp only [tokR, trowB, Bool.and_eq_true, decide_eq_true_eq] at q
    exact ⟨q.1, q.2.2, q.2.1.1, q.2.1.2⟩
  have q0 := r _ (List.getElem_mem (l := ss) (n := 0) (by omega))
  exact ⟨rfl, a, b, by have := q0.1; omega, by have := q0.1; omega, fun s hs => ⟨(r s hs).1, (r s hs).2.1⟩⟩
theorem TB.headW {ss : List ByteArray} {W n : Nat} (h : TB ss W n) : tabW ss = W := by
  have hl : 0 < ss.length := by have := h.len; have := h.h1; omega
  rw [tabW_at hl]
  exact (h.row _ (List.getElem_mem hl)).1
theorem TB.good {ss : List ByteArray} {W n : Nat} (h : TB ss W n) : tabB ss = true := by
  have := h.len; have := h.h1; have := h.h10; have := h.w1; have := h.w10
  simp only [tabB, Bool.and_eq_true, decide_eq_true_eq]
  refine ⟨by omega, ?_⟩
  rw [List.all_eq_true]
  intro s hs
  obtain ⟨a, b⟩ := h.row s hs
  simp only [tokR, trowB, Bool.and_eq_true, decide_eq_true_eq]
  exact ⟨by rw [h.headW, a], by omega, b⟩
theorem tq_at {ss : List ByteArray} {y x : Nat} (hy : y < ss.length) (hx : x < (ss[y]).size) : tq ss y x = ((ss[y])[x] == 35) := by
  unfold tq
  rw [List.getElem?_eq_getElem hy, Option.getD_some, Array.getElem?_eq_getElem (by exact hx), Option.getD_some]
  rfl
theorem sqB_all {s : ByteArray} (h : s.data.toList.all sqB = true) {x : Nat} (hx : x < s.size) : s[x] = 35 ∨ s[x] = 46 := by
  have q := List.all_eq_true.1 h (s.data.toList[x]'(by simpa using hx)) (List.getElem_mem _)
  have e : s.data.toList[x]'(by simpa using hx) = s[x] := rfl
  rw [e] at q
  simpa [sqB] using q
theorem TB.byte {ss : List ByteArray} {W n : Nat} (h : TB ss W n) {y x : Nat} (hy : y < ss.length) (hx : x < (ss[y]).size) : (ss[y])[x] = sgn (tq ss y x) := by
  have := sqB_all (h.row _ (List.getElem_mem hy)).2 hx
  rw [tq_at hy hx]
  rcases this with e | e <;> rw [e] <;> rfl
theorem byteArray_ext {s t : ByteArray} (hl : s.size = t.size) (h : ∀ x (h1 : x < s.size) (h2 : x < t.size), s[x] = t[x]) : s = t := by
  apply ByteArray.ext
  apply Array.ext
  · exact hl
  · intro i h1 h2
    exact h i h1 h2
theorem rowF_at {W : Nat} {f : Nat → Bool} {x : Nat} (h : x < (rowF W f).size) : (rowF W f)[x] = sgn (f x) := by
  have h' : x < ((List.range W).map fun x => sgn (f x)).toArray.size := h
  show ((List.range W).map fun x => sgn (f x)).toArray[x]'h' = _
  rw [List.getElem_toArray]
  simp
theorem tab_ext {ss : List ByteArray} {W n : Nat} {g : Nat → Nat → Bool} (hl : ss.length = n) (hs : ∀ y (hy : y < ss.length), (ss[y]).size = W) (hb : ∀ y (hy : y < ss.length) x (hx : x < (ss[y]).size), (ss[y])[x] = sgn (g y x)) : ss = tabF W n g := by
  apply List.ext_getElem
  · rw [length_tabF, hl]
  · intro y h1 h2
    have e : (tabF W n g)[y] = rowF W (g y) := by simp [tabF]
    rw [e]
    apply byteArray_ext
    · rw [hs y h1, size_rowF]
    · intro x hx1 hx2
      rw [hb y h1 x hx1, rowF_at]
theorem TB.eq {ss : List ByteArray} {W n : Nat} (h : TB ss W n) : ss = tabF W n (tq ss) :=
  tab_ext h.len (fun y hy => (h.row _ (List.getElem_mem hy)).1) (fun y hy x hx => h.byte hy hx)
theorem sgn_eq (b : Bool) : (sgn b == 35) = b := by cases b <;> rfl
theorem TB.tabF {W n : Nat} (h1 : 1 ≤ n) (h10 : n ≤ 10) (w1 : 1 ≤ W) (w10 : W ≤ 10) (g : Nat → Nat → Bool) : TB (tabF W n g) W n := by
  refine ⟨length_tabF _ _ _, h1, h10, w1, w10, ?_⟩
  intro s hs
  obtain ⟨y, _, rfl⟩ := List.mem_map.1 hs
  refine ⟨size_rowF _ _, ?_⟩
  rw [List.all_eq_true]
  intro b hb
  simp only [rowF, List.mem_map] at hb
  obtain ⟨x, _, rfl⟩ := hb
  cases g y x <;> rfl
theorem tq_tabF {W n y x : Nat} {g : Nat → Nat → Bool} (hy : y < n) (hx : x < W) : tq (tabF W n g) y x = g y x := by
  have hl : y < (tabF W n g).length := by rw [length_tabF]; exact hy
  have e : (tabF W n g)[y] = rowF W (g y) := by simp [Go.Proofs.Ytieiakljholkaaa.tabF]
  rw [tq_at hl (by rw [e, size_rowF]; exact hx)]
  have : ∀ s : ByteArray, s = rowF W (g y) → ∀ h : x < s.size, (s[x] == 35) = g y x := by
    intro s hs h; subst hs; rw [rowF_at, sgn_eq]
  exact this _ e _

theorem Rd.strAt {w : World} {n k b o : Nat} {xs : List ByteArray} (h : Rd w 1 (some ⟨b, o, none⟩) n (strCells xs)) (hk : k < n) : ∃ hx : k < xs.length, w.cell? ⟨b, o + k, none⟩ = some (.string xs[k]) := by
  obtain ⟨b', o', e, _, hx, hc⟩ := h.str hk
  simp only [Option.some.injEq, Addr.mk.injEq, and_true] at e
  obtain ⟨rfl, rfl⟩ := e
  exact ⟨hx, hc⟩
theorem sgn_int (b : Bool) : (((sgn b).toNat : Int) == 35) = b := by cases b <;> rfl
theorem sgn_int' (b : Bool) : (((sgn b).toNat : Int) != 35) = !b := by cases b <;> rfl
theorem sgn_int46 (b : Bool) : (((sgn b).toNat : Int) == 46) = !b := by cases b <;> rfl
theorem sgn_lt (b : Bool) : (sgn b).toNat < 128 := by cases b <;> decide
/-- a square read out of memory -/
theorem Rd.sq {w : World} {n b o W : Nat} {ss : List ByteArray} (hr : Rd w 1 (some ⟨b, o, none⟩) n (strCells ss)) (h : TB ss W n) {y x : Nat} (hy : y < n) (hx : x < W) :
    ∃ s : ByteArray, w.cell? ⟨b, o + y, none⟩ = some (.string s) ∧ Hid (s.size = W) ∧ ∃ hs : x < s.size, Hid ((((s[x]).toNat : Int) == 35) = tq ss y x) ∧ Hid ((((s[x]).toNat : Int) != 35) = !tq ss y x) ∧ Hid ((((s[x]).toNat : Int) == 46) = !tq ss y x) ∧ (s[x]).toNat < 128 ∧ Hid (s[x] = sgn (tq ss y x)) := by
  obtain ⟨hy', hc⟩ := hr.strAt hy
  have a := (h.row _ (List.getElem_mem hy')).1
  have hx' : x < (ss[y]).size := by rw [a]; exact hx
  have q := h.byte hy' hx'
  refine ⟨ss[y], hc, a, hx', ?_, ?_, ?_, ?_, q⟩
  · simp only [Hid]; rw [q, sgn_int]
  · simp only [Hid]; rw [q, sgn_int']
  · simp only [Hid]; rw [q, sgn_int46]
  · rw [q]; exact sgn_lt _
/-- a row read out of memory -/
theorem Rd.trow {w : World} {n b o W : Nat} {ss : List ByteArray} (hr : Rd w 1 (some ⟨b, o, none⟩) n (strCells ss)) (h : TB ss W n) {y : Nat} (hy : y < n) :
    ∃ s : ByteArray, w.cell? ⟨b, o + y, none⟩ = some (.string s) ∧ Hid (s.size = W) ∧ Hid (s = rowF W (tq ss y)) ∧ Hid (∀ x (hx : x < s.size), s[x] = sgn (tq ss y x)) := by
  obtain ⟨hy', hc⟩ := hr.strAt hy
  have a := (h.row _ (List.getElem_mem hy')).1
  refine ⟨ss[y], hc, a, ?_, fun x hx => h.byte hy' hx⟩
  simp only [Hid]
  have e := h.eq
  have : ∀ L : List ByteArray, L = tabF W n (tq ss) → ∀ h : y < L.length, L[y] = rowF W (tq ss y) := by
    intro L hL h2; subst hL; simp [Go.Proofs.Ytieiakljholkaaa.tabF]
  exact this ss e hy'
theorem Rd.tab0 {w : World} {n W : Nat} {A : Option Addr} {ss : List ByteArray} (hr : Rd w 1 A n (strCells ss)) (h : TB ss W n) :
    ∃ b o, A = some ⟨b, o, none⟩ ∧ b < w.heap.size ∧ ∃ s : ByteArray, w.cell? ⟨b, o, none⟩ = some (.string s) ∧ Hid (s.size = W) := by
  obtain ⟨b, o, rfl, hb, hx, hc⟩ := hr.str h.h1
  rw [Nat.add_zero] at hc
  exact ⟨b, o, rfl, hb, ss[0], hc, (h.row _ (List.getElem_mem hx)).1⟩

theorem tabB_size {ss : List ByteArray} (h : ¬ (1 ≤ ss.length ∧ ss.length ≤ 10)) : tabB ss = false := by
  unfold tabB; rw [decide_eq_false h]; rfl
theorem tabB_bad {ss : List ByteArray} {k W : Nat} {s : ByteArray} (hk : k < ss.length) (hW : tabW ss = W) (e : ss[k] = s) (h : tokR W s = false) : tabB ss = false := by
  unfold tabB
  have : ss.all (tokR (tabW ss)) = false := by
    rw [List.all_eq_false]
    exact ⟨s, by rw [← e]; exact List.getElem_mem hk, by rw [hW, h]; simp⟩
  rw [this, Bool.and_false]
theorem tabB_good {ss : List ByteArray} {W : Nat} (h1 : 1 ≤ ss.length) (h10 : ss.length ≤ 10) (hW : tabW ss = W) (h : ss.all (tokR W) = true) : tabB ss = true := by
  unfold tabB
  rw [hW, h, decide_eq_true (by omega)]
  rfl
theorem trowB_size {s : ByteArray} (h : ¬ (1 ≤ s.size ∧ s.size ≤ 10)) : trowB s = false := by
  unfold trowB; rw [decide_eq_false h]; rfl
theorem trowB_eq {s : ByteArray} (h : 1 ≤ s.size ∧ s.size ≤ 10) : trowB s = s.data.toList.all sqB := by
  unfold trowB; rw [decide_eq_true h]; rfl
theorem sqB_bad {s : ByteArray} {k : Nat} (hk : k < s.size) (h : sqB s[k] = false) : s.data.toList.all sqB = false := by
  rw [List.all_eq_false]
  exact ⟨s.data.toList[k]'(by simpa using hk), List.getElem_mem _, by rw [show s.data.toList[k]'(by simpa using hk) = s[k] from rfl, h]; simp⟩
theorem sqB_step {s : ByteArray} {k : Nat} (hk : k < s.size) (h : (s.data.toList.take k).all sqB = true) (h1 : sqB s[k] = true) : (s.data.toList.take (k + 1)).all sqB = true := by
  have hk' : k < s.data.toList.length := by simpa using hk
  rw [List.take_succ_eq_append_getElem hk', List.all_append, h]
  rw [show s.data.toList[k] = s[k] from rfl]
  simp [h1]
theorem all_step {α : Type} {p : α → Bool} {l : List α} {k : Nat} {a : α} (h : k < l.length) (e : l[k] = a) (ha : (l.take k).all p = true) (hb : p a = true) : (l.take (k + 1)).all p = true := by
  rw [List.take_succ_eq_append_getElem h, List.all_append, ha, e]; simp [hb]
theorem upto_inB {k m : Nat} : inB (k : Int) 1 (m : Int) = decide (1 ≤ k ∧ k ≤ m) := by
  unfold inB
  congr 1
  apply propext
  omega

/-- one square taken out -/
def bite (g : Nat → Nat → Bool) (y x : Nat) : Nat → Nat → Bool := fun y' x' => g y' x' && !(decide (y' = y) && decide (x' = x))
theorem lin_eq {W y x k : Nat} (hx : x < W) : k = y * W + x ↔ k / W = y ∧ k % W = x := by
  constructor
  · rintro rfl; exact divmod_at hx
  · rintro ⟨rfl, rfl⟩; rw [Nat.mul_comm]; exact (Nat.div_add_mod k W).symm
theorem isF_set {W m y x : Nat} {g : Nat → Nat → Bool} (hx : x < W) : (isF W m g).set (y * W + x) false = isF W m (bite g y x) := by
  apply List.ext_getElem
  · simp [isF]
  · intro k h1 h2
    rw [List.getElem_set, isF_at]
    have hk : k < (isF W m g).length := by simpa using h1
    by_cases e : y * W + x = k
    · rw [if_pos e]
      have := (lin_eq (k := k) hx).1 e.symm
      rw [isF_at]
      simp [bite, this.1, this.2]
    · rw [if_neg e, isF_at]
      have : ¬ (k / W = y ∧ k % W = x) := fun q => e ((lin_eq hx).2 q).symm
      by_cases e1 : k / W = y <;> by_cases e2 : k % W = x <;> simp_all [bite]
theorem set_boolCells (l : List Bool) (k : Nat) (s : Bool) : (boolCells l).set k (.bool s) = boolCells (l.set k s) := by simp [boolCells, List.map_set]
/-- a text with one byte put -/
theorem rowF_bite {W x : Nat} {f : Nat → Bool} (h : x < W) : (rowF W f).extract 0 x ++ ⟨#[46]⟩ ++ (rowF W f).extract (x + 1) (rowF W f).size = rowF W (fun i => f i && !decide (i = x)) := by
  have hs := size_rowF W f
  have e : ((List.range W).map fun i => sgn (f i && !decide (i = x))) = (((List.range W).map fun i => sgn (f i)).set x 46) := by
    apply List.ext_getElem
    · simp
    · intro k h1 h2
      rw [List.getElem_set]
      by_cases q : x = k
      · subst q; simp [sgn]
      · have : ¬ k = x := fun e => q e.symm
        simp [q, this]
  apply ByteArray.ext
  have l : ((List.range W).map fun i => sgn (f i)).length = W := by simp
  simp only [rowF, ByteArray.data_append, ByteArray.data_extract, e]
  apply Array.ext'
  simp only [Array.toList_append, Array.toList_extract, List.extract_eq_take_drop, List.drop_zero, Nat.sub_zero, List.append_assoc]
  rw [List.set_eq_take_append_cons_drop, if_pos (by rw [l]; exact h)]
  congr 1
  simp only [List.cons_append, List.nil_append, List.cons.injEq, true_and]
  rw [List.take_of_length_le (by rw [List.length_drop, l]; show W - (x + 1) ≤ (rowF W f).size - (x + 1); rw [hs]; exact Nat.le_refl _)]
theorem tabF_set {W n y x : Nat} {g : Nat → Nat → Bool} (hy : y < n) : (tabF W n g).set y (rowF W (fun i => g y i && !decide (i = x))) = tabF W n (bite g y x) := by
  apply List.ext_getElem
  · simp [tabF]
  · intro k h1 h2
    rw [List.getElem_set]
    by_cases e : y = k
    · subst e
      rw [if_pos rfl]
      have e2 : (tabF W n (bite g y x))[y] = rowF W (bite g y x y) := by simp [tabF]
      rw [e2]
      exact rowF_congr fun i _ => by simp [bite]
    · have hk : ¬ k = y := fun q => e q.symm
      rw [if_neg e]
      have e2 : (tabF W n (bite g y x))[k] = rowF W (bite g y x k) := by simp [tabF]
      have e3 : ∀ h, (tabF W n g)[k]'h = rowF W (g k) := fun h => by simp [tabF]
      rw [e2, e3]
      exact rowF_congr fun i _ => by simp [bite, hk]

end Go.Proofs.Ytieiakljholkaaa
