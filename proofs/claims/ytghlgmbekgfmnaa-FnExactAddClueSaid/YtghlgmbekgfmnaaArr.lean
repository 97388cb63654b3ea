/-
  Words and contracts: chomps as arrays of six numbers; the program's chompOf, isBite, eat.
-/
import Derived.Test.YtghlgmbekgfmnaaCh1
import Derived.Test.YtghlgmbekgfmnaaReg
import Derived.OwnWalk
import Derived.Deep.AppendLies
namespace Go.Proofs.Ytghlgmbekgfmnaa
open Go.RowKit
set_option linter.unusedVariables false

/-- a chomp's value -/
abbrev arrF (f : Nat → Int) : Value := .agg #[.int .i64 (f 0), .int .i64 (f 1), .int .i64 (f 2), .int .i64 (f 3), .int .i64 (f 4), .int .i64 (f 5)]
/-- its six cells -/
abbrev cellsF (f : Nat → Int) : List Value := [.int .i64 (f 0), .int .i64 (f 1), .int .i64 (f 2), .int .i64 (f 3), .int .i64 (f 4), .int .i64 (f 5)]
theorem cellsF_at (f : Nat → Int) {k : Nat} (h : k < 6) : (cellsF f)[k]? = some (.int .i64 (f k)) := by
  rcases (show k = 0 ∨ k = 1 ∨ k = 2 ∨ k = 3 ∨ k = 4 ∨ k = 5 by omega) with rfl | rfl | rfl | rfl | rfl | rfl <;> rfl
theorem cellsF_set (f : Nat → Int) {k : Nat} (h : k < 6) (v : Int) : (cellsF f).set k (.int .i64 v) = cellsF (fun j => if j = k then v else f j) := by
  rcases (show k = 0 ∨ k = 1 ∨ k = 2 ∨ k = 3 ∨ k = 4 ∨ k = 5 by omega) with rfl | rfl | rfl | rfl | rfl | rfl <;> simp
theorem cellsF_congr {f g : Nat → Int} (h : ∀ k, k < 6 → f k = g k) : cellsF f = cellsF g := by
  simp only [cellsF, h 0 (by omega), h 1 (by omega), h 2 (by omega), h 3 (by omega), h 4 (by omega), h 5 (by omega)]
theorem arrF_congr {f g : Nat → Int} (h : ∀ k, k < 6 → f k = g k) : arrF f = arrF g := by
  simp only [arrF, h 0 (by omega), h 1 (by omega), h 2 (by omega), h 3 (by omega), h 4 (by omega), h 5 (by omega)]

/-- new cells are an owned row -/
theorem own_new (w : World) (e : TypeId) (z n : Nat) (cs : Array Value) (h : cs.size = n * z) (hn : n ≤ 1000000) {B : Nat} (hB : B ≤ w.heap.size) :
    (w.alloc (.cells cs e)).ownsRow B e z (.slice (some ⟨w.heap.size, 0, none⟩) n n) n cs.toList :=
  ⟨by simp [h], .inr ⟨w.heap.size, n, cs, rfl, hB, heap_alloc_new w _, Nat.le_refl _, by simp only [maxLen]; omega, h, by rw [List.take_of_length_le (by simp [h])]⟩⟩
theorem own_alloc {w : World} {B e z n : Nat} {v : Value} {xs : List Value} (h : w.ownsRow B e z v n xs) (o : Obj) : (w.alloc o).ownsRow B e z v n xs := by
  refine h.kept (World.grownBy_alloc w o none) ?_
  rcases hv : v.ownBlock with _ | q
  · exact .inl rfl
  · exact .inr (by simp)

/-- block g is a chomp's box -/
def BoxF (w : World) (g : Nat) (f : Nat → Int) : Prop := w.ownsRow 0 73 6 (.slice (some ⟨g, 0, none⟩) 1 1) 1 (cellsF f)
theorem BoxF.cell {w : World} {g : Nat} {f : Nat → Int} (h : BoxF w g f) {k : Nat} (hk : k < 6) : w.cell? ⟨g, k, none⟩ = some (.int .i64 (f k)) := by
  rw [World.ownsRow.cellAt h k (by omega), cellsF_at f hk]
theorem BoxF.cells {w : World} {g : Nat} {f : Nat → Int} (h : BoxF w g f) : w.cell? ⟨g, 0, none⟩ = some (.int .i64 (f 0)) ∧ w.cell? ⟨g, 1, none⟩ = some (.int .i64 (f 1)) ∧ w.cell? ⟨g, 2, none⟩ = some (.int .i64 (f 2)) ∧ w.cell? ⟨g, 3, none⟩ = some (.int .i64 (f 3)) ∧ w.cell? ⟨g, 4, none⟩ = some (.int .i64 (f 4)) ∧ w.cell? ⟨g, 5, none⟩ = some (.int .i64 (f 5)) :=
  ⟨h.cell (by omega), h.cell (by omega), h.cell (by omega), h.cell (by omega), h.cell (by omega), h.cell (by omega)⟩
theorem BoxF.frozen {w : World} {g : Nat} {f : Nat → Int} (h : BoxF w g f) (k : Nat) : w.frozen? ⟨g, k, none⟩ = false := World.ownsRow.frozenAt h k
theorem BoxF.lt {w : World} {g : Nat} {f : Nat → Int} (h : BoxF w g f) : g < w.heap.size := (World.ownsRow.lt h g rfl).2
theorem BoxF.new (w : World) (f : Nat → Int) : BoxF (w.alloc (.cells #[.int .i64 (f 0), .int .i64 (f 1), .int .i64 (f 2), .int .i64 (f 3), .int .i64 (f 4), .int .i64 (f 5)] 73)) w.heap.size f :=
  own_new w 73 6 1 #[.int .i64 (f 0), .int .i64 (f 1), .int .i64 (f 2), .int .i64 (f 3), .int .i64 (f 4), .int .i64 (f 5)] rfl (by omega) (Nat.zero_le _)
theorem BoxF.alloc {w : World} {g : Nat} {f : Nat → Int} (h : BoxF w g f) (o : Obj) : BoxF (w.alloc o) g f := own_alloc h o
theorem BoxF.below {w w' : World} {g B : Nat} {f : Nat → Int} (h : BoxF w g f) (hb : Below B w w') (hB : w.heap.size ≤ B) : BoxF w' g f := own_later h hb hB
theorem BoxF.grown {w w' : World} {g q : Nat} {f : Nat → Int} (h : BoxF w g f) (hg : w.grownBy w' (some q)) (hq : g ≠ q) : BoxF w' g f :=
  World.ownsRow.kept h hg (.inr (by simp [Value.ownBlock]; exact hq))
theorem BoxF.set {w : World} {g k : Nat} {f : Nat → Int} (h : BoxF w g f) (hk : k < 6) (v : Int) : BoxF (w.setCell ⟨g, k, none⟩ (.int .i64 v)) g (fun j => if j = k then v else f j) ∧ w.grownBy (w.setCell ⟨g, k, none⟩ (.int .i64 v)) (some g) := by
  have st := World.ownsRow.stored h k (.int .i64 v)
  rw [cellsF_set f hk] at st
  exact st
theorem BoxF.congr {w : World} {g : Nat} {f f' : Nat → Int} (h : BoxF w g f) (hf : ∀ k, k < 6 → f k = f' k) : BoxF w g f' := by
  unfold BoxF at *
  rw [← cellsF_congr hf]
  exact h

theorem lim_succ (l : List Int) (k : Nat) : lim l (k + 1) = l.getD k 0 := if_neg (Nat.succ_ne_zero k)
/-- the program's rows of a list, as far as k -/
def padK (l : List Int) (k : Nat) : Nat → Int := fun j => if j < k then l.getD j 0 else 0
/-- the array that chompOf returns -/
def padC (l : List Int) : Nat → Int := padK l (if chB l then l.length else 0)
theorem padC_no {l : List Int} (h : chB l = false) : padC l = fun _ => 0 := by
  funext j
  simp [padC, h, padK]
theorem padC_yes {l : List Int} (h : chB l = true) : padC l = padK l l.length := by
  funext j
  simp [padC, h]
theorem padC_at {l : List Int} (h : chB l = true) (j : Nat) : padC l j = l.getD j 0 := by
  rw [padC_yes h]
  unfold padK
  split
  · rfl
  · rw [getD_past (by omega)]

set_option maxRecDepth 100000 in
set_option maxHeartbeats 2000000 in
theorem chompOf_any (A : Option Addr) (n c : Nat) (l : List Int) (w : World) (hr : Rd w 1 A n (intCells l)) (hn : n ≤ 1000000000) :
    Calls Try.prog 99 #[.slice A n c] w fun e w' => e = .returned (.tuple #[arrF (padC l), .bool (chB l)]) ∧ Below w.heap.size w w' := by
  have hll := hr.ilen
  have HLL := Lib.hid hll
  by_cases h1 : 1 ≤ l.length ∧ l.length ≤ 6
  · have hlo : decide ((n : Int) < 1) = false := by simp; omega
    have hhi : decide (6 < (n : Int)) = false := by simp; omega
    have n1 : 1 ≤ n := by omega
    have n6 : n ≤ 6 := by omega
    have H1 := Lib.hid h1
    have b0 : BoxF (w.alloc (.cells #[.int .i64 0, .int .i64 0, .int .i64 0, .int .i64 0, .int .i64 0, .int .i64 0] 73)) w.heap.size (fun _ => 0) := BoxF.new w (fun _ => 0)
    have B0 := Lib.hid (b0.alloc (.cells #[.int .i64 0, .int .i64 0, .int .i64 0, .int .i64 0, .int .i64 0, .int .i64 0] 73))
    have b1 : BoxF ((w.alloc (.cells #[.int .i64 0, .int .i64 0, .int .i64 0, .int .i64 0, .int .i64 0, .int .i64 0] 73)).alloc (.cells #[.int .i64 0, .int .i64 0, .int .i64 0, .int .i64 0, .int .i64 0, .int .i64 0] 73)) (w.alloc (.cells #[.int .i64 0, .int .i64 0, .int .i64 0, .int .i64 0, .int .i64 0, .int .i64 0] 73)).heap.size (fun _ => 0) := BoxF.new _ (fun _ => 0)
    have e1 : (w.alloc (.cells #[.int .i64 0, .int .i64 0, .int .i64 0, .int .i64 0, .int .i64 0, .int .i64 0] 73)).heap.size = w.heap.size + 1 := by simp
    rw [e1] at b1
    have B1 := Lib.hid b1
    clear b0 b1 e1 h1
    go_enter Try.func99, Try.ntmps99
    go_wp2
    go_loopw [5, 19] (fun q i wr => ∃ k : Nat, k ≤ n ∧ i = .int .i64 k ∧ q = .int .i64 (lim l k) ∧ BoxF wr w.heap.size (fun _ => 0) ∧ BoxF wr (w.heap.size + 1) (padK l k) ∧ Hid (∀ j, j < k → 1 ≤ l.getD j 0 ∧ l.getD j 0 ≤ lim l j) ∧ Below w.heap.size w wr) (fun _ i _ => n - (intOf i).toNat)
    case atStart => exact ⟨0, Nat.zero_le _, rfl, rfl, B0.out, B1.out.congr (fun k hk => by simp [padK]), fun j hj => absurd hj (by omega), by (repeat (first | (with_reducible exact Below.refl _ _) | (with_reducible assumption) | (with_reducible refine Below.drew ?_) | ((with_reducible refine balloc ?_ _ ?_); · (first | (simp; done) | (simp; omega) | omega)) | ((with_reducible refine bset ?_ _ ?_); · (first | (simp; done) | (simp; omega) | omega)) | (with_reducible refine bdrewN _ ?_) | ((with_reducible refine bcall ?_ (by assumption) ?_); · (first | (simp; done) | (simp; omega) | omega))))⟩
    case round =>
      obtain ⟨k, hk, rfl, rfl, hb0, hb1, hT, hB⟩ := hrel
      have HB0 := Lib.hid hb0
      have HB1 := Lib.hid hb1
      by_cases hlt : k < n
      · obtain ⟨b2, o2, rfl, l2, hx, p1⟩ := (hr.later hB (Nat.le_refl _)).num hlt
        have hq : l.getD k 0 = l[k] := getD_lt hx
        have HQ := Lib.hid hq
        have HX := Lib.hid hx
        clear hq
        generalize l[k] = z at *
        clear hx
        generalize hm : lim l k = m at *
        have HM := Lib.hid hm
        clear hm
        by_cases hz1 : 1 ≤ z
        · have d1 : decide (z < 1) = false := decide_eq_false (by omega)
          by_cases hz2 : z ≤ m
          · have d2 : decide (m < z) = false := decide_eq_false (by omega)
            have c1 := hb1.cell (k := k) (by omega)
            have f1 := hb1.frozen k
            have st := hb1.set (k := k) (by omega) z
            have ST := Lib.hid st.1
            have SG := Lib.hid (hb0.grown st.2 (by omega))
            have k6 : k < 6 := by omega
            clear st hb0 hb1
            go_wp2
            go_roundw
            case rel =>
              refine ⟨k + 1, by omega, by go_num, by rw [lim_succ, HQ.out], SG.out, ST.out.congr (fun j hj => ?_), fun j hj => ?_, by (repeat (first | (with_reducible exact Below.refl _ _) | (with_reducible assumption) | (with_reducible refine Below.drew ?_) | ((with_reducible refine balloc ?_ _ ?_); · (first | (simp; done) | (simp; omega) | omega)) | ((with_reducible refine bset ?_ _ ?_); · (first | (simp; done) | (simp; omega) | omega)) | (with_reducible refine bdrewN _ ?_) | ((with_reducible refine bcall ?_ (by assumption) ?_); · (first | (simp; done) | (simp; omega) | omega))))⟩
              · simp only [padK]
                by_cases e : j = k
                · subst e; rw [if_pos rfl, if_pos (by omega), HQ.out]
                · rw [if_neg e]
                  by_cases e2 : j < k
                  · rw [if_pos e2, if_pos (by omega)]
                  · rw [if_neg e2, if_neg (by omega)]
              · by_cases e : j = k
                · subst e; rw [HQ.out, HM.out]; exact ⟨hz1, hz2⟩
                · exact hT.out j (by omega)
            case measure => simp [intOf]; omega
          · have d2 : decide (m < z) = true := decide_eq_true (by omega)
            have hch : chB l = false := chB_not_lim HX.out (by rw [HQ.out, HM.out]; omega)
            have HCH := Lib.hid hch
            obtain ⟨c0, c1, c2, c3, c4, c5⟩ := hb0.cells
            have f0 := hb0.frozen 0
            have f1 := hb0.frozen 1
            have f2 := hb0.frozen 2
            have f3 := hb0.frozen 3
            have f4 := hb0.frozen 4
            have f5 := hb0.frozen 5
            clear hb0 hb1 hch
            go_wp2
            refine bodyPost_ret (v := .tuple #[arrF (fun _ => 0), .bool false]) (by simp [results, Try.results99, go_sem, *]) rfl ⟨by rw [HCH.out, padC_no HCH.out], by (repeat (first | (with_reducible exact Below.refl _ _) | (with_reducible assumption) | (with_reducible refine Below.drew ?_) | ((with_reducible refine balloc ?_ _ ?_); · (first | (simp; done) | (simp; omega) | omega)) | ((with_reducible refine bset ?_ _ ?_); · (first | (simp; done) | (simp; omega) | omega)) | (with_reducible refine bdrewN _ ?_) | ((with_reducible refine bcall ?_ (by assumption) ?_); · (first | (simp; done) | (simp; omega) | omega))))⟩
        · have d1 : decide (z < 1) = true := decide_eq_true (by omega)
          have hch : chB l = false := chB_not_lim HX.out (by rw [HQ.out, HM.out]; omega)
          have HCH := Lib.hid hch
          obtain ⟨c0, c1, c2, c3, c4, c5⟩ := hb0.cells
          have f0 := hb0.frozen 0
          have f1 := hb0.frozen 1
          have f2 := hb0.frozen 2
          have f3 := hb0.frozen 3
          have f4 := hb0.frozen 4
          have f5 := hb0.frozen 5
          clear hb0 hb1 hch
          go_wp2
          refine bodyPost_ret (v := .tuple #[arrF (fun _ => 0), .bool false]) (by simp [results, Try.results99, go_sem, *]) rfl ⟨by rw [HCH.out, padC_no HCH.out], by (repeat (first | (with_reducible exact Below.refl _ _) | (with_reducible assumption) | (with_reducible refine Below.drew ?_) | ((with_reducible refine balloc ?_ _ ?_); · (first | (simp; done) | (simp; omega) | omega)) | ((with_reducible refine bset ?_ _ ?_); · (first | (simp; done) | (simp; omega) | omega)) | (with_reducible refine bdrewN _ ?_) | ((with_reducible refine bcall ?_ (by assumption) ?_); · (first | (simp; done) | (simp; omega) | omega))))⟩
      · have hkn : k = n := by omega
        have hch : chB l = true := chB_true.2 ⟨H1.out.1, H1.out.2, fun j hj => hT.out j (by have := HLL.out; omega)⟩
        have HCH := Lib.hid hch
        obtain ⟨c0, c1, c2, c3, c4, c5⟩ := hb0.cells
        obtain ⟨k0, k1, k2, k3, k4, k5⟩ := hb1.cells
        have f0 := hb0.frozen 0
        have f1 := hb0.frozen 1
        have f2 := hb0.frozen 2
        have f3 := hb0.frozen 3
        have f4 := hb0.frozen 4
        have f5 := hb0.frozen 5
        clear hb0 hb1 hch
        go_wp2
        refine bodyPost_ret (v := .tuple #[arrF (padK l k), .bool true]) (by simp [results, Try.results99, go_sem, *]) rfl ⟨by rw [HCH.out, padC_yes HCH.out, HLL.out, hkn], by (repeat (first | (with_reducible exact Below.refl _ _) | (with_reducible assumption) | (with_reducible refine Below.drew ?_) | ((with_reducible refine balloc ?_ _ ?_); · (first | (simp; done) | (simp; omega) | omega)) | ((with_reducible refine bset ?_ _ ?_); · (first | (simp; done) | (simp; omega) | omega)) | (with_reducible refine bdrewN _ ?_) | ((with_reducible refine bcall ?_ (by assumption) ?_); · (first | (simp; done) | (simp; omega) | omega))))⟩
  · have HC := Lib.hid (chB_not_len h1)
    have hor : n < 1 ∨ 6 < n := by omega
    clear h1
    rcases hor with h | h
    · have hlo : decide ((n : Int) < 1) = true := by simp; omega
      go_enter Try.func99, Try.ntmps99
      go_wp2
      refine bodyPost_ret (v := .tuple #[arrF (fun _ => 0), .bool false]) (by simp [results, Try.results99, go_sem, *]) rfl ⟨by rw [HC.out, padC_no HC.out], by (repeat (first | (with_reducible exact Below.refl _ _) | (with_reducible assumption) | (with_reducible refine Below.drew ?_) | ((with_reducible refine balloc ?_ _ ?_); · (first | (simp; done) | (simp; omega) | omega)) | ((with_reducible refine bset ?_ _ ?_); · (first | (simp; done) | (simp; omega) | omega)) | (with_reducible refine bdrewN _ ?_) | ((with_reducible refine bcall ?_ (by assumption) ?_); · (first | (simp; done) | (simp; omega) | omega))))⟩
    · have hlo : decide ((n : Int) < 1) = false := by simp; omega
      have hhi : decide (6 < (n : Int)) = true := by simp; omega
      go_enter Try.func99, Try.ntmps99
      go_wp2
      refine bodyPost_ret (v := .tuple #[arrF (fun _ => 0), .bool false]) (by simp [results, Try.results99, go_sem, *]) rfl ⟨by rw [HC.out, padC_no HC.out], by (repeat (first | (with_reducible exact Below.refl _ _) | (with_reducible assumption) | (with_reducible refine Below.drew ?_) | ((with_reducible refine balloc ?_ _ ?_); · (first | (simp; done) | (simp; omega) | omega)) | ((with_reducible refine bset ?_ _ ?_); · (first | (simp; done) | (simp; omega) | omega)) | (with_reducible refine bdrewN _ ?_) | ((with_reducible refine bcall ?_ (by assumption) ?_); · (first | (simp; done) | (simp; omega) | omega))))⟩

end Go.Proofs.Ytghlgmbekgfmnaa
