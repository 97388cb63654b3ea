/-
  Words and contract: arrays of 145 costs in memory; the program's high costs.
-/
import Derived.Test.YtobncknlipeinaaWords
import Derived.Test.YtobncknlipeinaaChg
import Derived.Laws.Rows
import Derived.Laws.Tables
namespace Go.Proofs.Ytobncknlipeinaa
open Go.RowKit
set_option linter.unusedVariables false

def zc_50 : Array Value := Array.replicate 145 (.int .i64 0)
theorem zero_50 (w : World) : (zeroValue 50).run Try.prog w = .ok (.agg zc_50) w := by kernel_rfl
theorem zc_50_ne : ¬ zc_50 = #[] := by intro h; have := congrArg Array.size h; simp [zc_50] at this
def arrE (f : Nat → Int) : Array Value := Array.ofFn (n := 145) fun k => .int .i64 (f k.val)
theorem size_arrE (f : Nat → Int) : (arrE f).size = 145 := by simp [arrE]
theorem arrE_at (f : Nat → Int) {k : Nat} (h : k < 145) : (arrE f)[k]? = some (.int .i64 (f k)) := by
  unfold arrE
  rw [Array.getElem?_ofFn, dif_pos h]
theorem arrE_ext {f : Nat → Int} {a : Array Value} (hs : a.size = 145) (h : ∀ k, k < 145 → a[k]? = some (.int .i64 (f k))) : a = arrE f := by
  apply Array.ext_getElem?
  intro k
  by_cases hk : k < 145
  · rw [h k hk, arrE_at f hk]
  · rw [Array.getElem?_eq_none (by omega), Array.getElem?_eq_none (by rw [size_arrE]; omega)]
theorem arrE_congr {f g : Nat → Int} (h : ∀ k, k < 145 → f k = g k) : arrE f = arrE g := arrE_ext (size_arrE f) (fun k hk => by rw [arrE_at f hk, h k hk])
theorem arrE_set (f : Nat → Int) (k : Nat) (v : Int) : (arrE f).setIfInBounds k (.int .i64 v) = arrE (fun j => if j = k then v else f j) := by
  refine arrE_ext (by simp [size_arrE]) (fun j hj => ?_)
  rw [Array.getElem?_setIfInBounds]
  by_cases e : k = j
  · subst e
    rw [if_pos rfl, if_pos (by rw [size_arrE]; exact hj), if_pos rfl]
  · rw [if_neg e, arrE_at f hj, if_neg (fun h => e h.symm)]
theorem oneCell_arrE (f : Nat → Int) : (arrE f).all (·.oneCell') = true := by
  rw [Array.all_eq_true]
  intro i h
  have h2 : i < 145 := by rw [size_arrE] at h; exact h
  have e := arrE_at f h2
  rw [Array.getElem?_eq_getElem h] at e
  rw [Option.some.inj e]
  rfl
theorem zero_arrE : Array.replicate 145 (Value.int .i64 0) = arrE (fun _ => 0) := arrE_ext (by simp) (fun k hk => by simp [hk])
/-- block g is such an array -/
def RowE (w : World) (g : Nat) (f : Nat → Int) : Prop := w.heap[g]? = some (.cells (arrE f) 50 (0, 0))
theorem RowE.lt {w : World} {g : Nat} {f : Nat → Int} (h : RowE w g f) : g < w.heap.size := (Array.getElem?_eq_some_iff.1 h).1
theorem RowE.cell {w : World} {g k : Nat} {f : Nat → Int} (h : RowE w g f) (hk : k < 145) : w.cell? ⟨g, k, none⟩ = some (.int .i64 (f k)) := (cell_of_row w g k (arrE f) _ _ h).trans (arrE_at f hk)
theorem RowE.free {w : World} {g : Nat} {f : Nat → Int} (h : RowE w g f) (k : Nat) : w.frozen? ⟨g, k, none⟩ = false := by
  unfold RowE at h
  simp [World.frozen?, h]
theorem RowE.drew {w : World} {g : Nat} {f : Nat → Int} (h : RowE w g f) : RowE w.drew g f := h
theorem RowE.set {w : World} {g : Nat} {f : Nat → Int} (h : RowE w g f) (k : Nat) (v : Int) : RowE (w.setCell ⟨g, k, none⟩ (.int .i64 v)) g (fun j => if j = k then v else f j) := by
  unfold RowE at h ⊢
  rw [← arrE_set]
  simp [World.setCell, Array.getElem?_modify, h]
theorem RowE.other {w : World} {g q k : Nat} {f : Nat → Int} {v : Value} (h : RowE w g f) (hn : q ≠ g) : RowE (w.setCell ⟨q, k, none⟩ v) g f := by
  unfold RowE at h ⊢
  simp [World.setCell, Array.getElem?_modify, h, hn]
theorem RowE.new (w : World) (f : Nat → Int) : RowE (w.alloc (.cells (arrE f) 50)) w.heap.size f := by
  unfold RowE
  show (w.heap.push _)[w.heap.size]? = _
  simp
theorem RowE.alloc {w : World} {g : Nat} {f : Nat → Int} (h : RowE w g f) (ob : Obj) : RowE (w.alloc ob) g f := by
  have hl := h.lt
  unfold RowE at h ⊢
  show (w.heap.push ob)[g]? = _
  rw [Array.getElem?_push, if_neg (by omega)]
  exact h
theorem RowE.below {w w' : World} {g B : Nat} {f : Nat → Int} (h : RowE w g f) (hb : Below B w w') (hg : g < B) : RowE w' g f := (hb.block g hg).trans h
theorem RowE.congr {w : World} {g : Nat} {f f' : Nat → Int} (h : RowE w g f) (e : ∀ k, k < 145 → f k = f' k) : RowE w g f' := by
  unfold RowE at *
  rw [← arrE_congr e]
  exact h
theorem below_setRowE {B g : Nat} {a w : World} (h : Below B a w) (hg : B ≤ g) (cs : Array Value) : Below B a (w.setRow g cs) :=
  ⟨h.os, h.tape, h.output, by have := h.size; simpa [World.setRow] using this, fun b hb => by
    have e := h.block b hb
    rw [setRow_other w g b cs (by omega)]
    exact e⟩

set_option maxRecDepth 100000 in
set_option maxHeartbeats 2000000 in
theorem highCosts_any (w : World) : Calls Try.prog 48 #[] w fun e w' => e = .returned (.agg (arrE fun _ => 20736)) ∧ Below w.heap.size w w' := by
  have zc : zc_50 = arrE (fun _ => 0) := by rw [← zero_arrE]; kernel_rfl
  have r1 := ((RowE.new w (fun _ => 0)).alloc (.cells (arrE fun _ => 0) 50))
  have r2 := RowE.new (w.alloc (.cells (arrE fun _ => 0) 50)) (fun _ => 0)
  rw [show (w.alloc (.cells (arrE fun _ => 0) 50)).heap.size = w.heap.size + 1 by simp] at r2
  rw [← zc] at r1 r2
  have R1 := Lib.hid r1
  have R2 := Lib.hid r2
  clear r1 r2 zc
  have hzf := fun wx => zero_50 wx; have hze := zc_50_ne
  go_enter Try.func48, Try.ntmps48
  go_wp2
  go_loopw [3] (fun i wr => ∃ k : Nat, k ≤ 145 ∧ i = .int .i64 k ∧ RowE wr w.heap.size (fun _ => 0) ∧ RowE wr (w.heap.size + 1) (fun j => if j < k then 20736 else 0) ∧ Below w.heap.size w wr) (fun i _ => 145 - (intOf i).toNat)
  case atStart => exact ⟨0, Nat.zero_le _, rfl, R1.out, by simpa using R2.out, by (repeat (first | (with_reducible exact Below.refl _ _) | (with_reducible assumption) | (with_reducible refine Below.drew ?_) | ((with_reducible refine balloc ?_ _ ?_); · (first | (simp; done) | (simp; omega) | omega)) | ((with_reducible refine bset ?_ _ ?_); · (first | (simp; done) | (simp; omega) | omega)) | (with_reducible refine bdrewN _ ?_) | ((with_reducible refine bcall ?_ (by assumption) ?_); · (first | (simp; done) | (simp; omega) | omega))))⟩
  case round =>
    obtain ⟨k, hk, rfl, h1, h2, hB⟩ := hrel
    clear R1 R2
    by_cases hlt : k < 145
    · have hlti : (k : Int) < 145 := by omega
      have c2 := h2.cell (k := k) hlt
      have f2 := h2.free k
      have s1 := h1.other (q := w.heap.size + 1) (k := k) (v := .int .i64 20736) (by omega)
      have s2 := (h2.set k 20736).congr (f' := fun j => if j < k + 1 then 20736 else 0) (fun j hj => by
        by_cases e : j = k
        · subst e; simp
        · by_cases q : j < k
          · simp [e, q]; omega
          · rw [if_neg e, if_neg q, if_neg (by omega)])
      have S1 := Lib.hid s1
      have S2 := Lib.hid s2
      have HB := Lib.hid (hB.setCell (p := ⟨w.heap.size + 1, k, none⟩) (by show w.heap.size ≤ w.heap.size + 1; omega) (.int .i64 20736))
      clear s1 s2 h1 h2 hB
      go_wp2
      go_roundw
      case rel => exact ⟨k + 1, by omega, by go_num, S1.out, S2.out, HB.out⟩
      case measure => simp [intOf]; omega
    · obtain rfl : k = 145 := by omega
      have h3 := h2.congr (f' := fun _ => 20736) (fun j hj => if_pos hj)
      have HSET := Lib.hid (setRow_heap wr w.heap.size _ (arrE fun _ => 20736) _ _ h1)
      have HBR := Lib.hid (below_setRowE hB (Nat.le_refl _) (arrE fun _ => 20736))
      have H1 := Lib.hid h1
      have H3 := Lib.hid h3
      clear h1 h2 h3 hB
      go_wp2_with (first | refine wpList_load_row rfl 50 _ rfl (w.heap.size + 1) rfl _ (arrE fun _ => 20736) _ _ H3.out Try.underlying50 rfl (by rw [size_arrE]; kernel_rfl) ?_ | refine wpList_store_row rfl 50 _ _ rfl w.heap.size (arrE fun _ => 20736) rfl rfl _ _ H1.out (by rw [size_arrE]; kernel_rfl) (by rw [size_arrE, size_arrE]) (oneCell_arrE _) ?_)
      refine bodyPost_ret (v := .agg (arrE fun _ => 20736)) (results_cell_row Try.results48 _ _ w.heap.size _ _ _ _ rfl HSET.out Try.underlying50 rfl (by rw [size_arrE]; kernel_rfl)) rfl ⟨rfl, HBR.out⟩

end Go.Proofs.Ytobncknlipeinaa
