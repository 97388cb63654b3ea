/-
  Contracts: the program's shares of four, kept in order (with). Conditions: none.
-/
import Derived.Test.YtkijcpbjjbhnhaaPoorW
import Derived.Test.YtkijcpbjjbhnhaaSumP
namespace Go.Proofs.Ytkijcpbjjbhnhaa
open Go.RowKit
set_option linter.unusedVariables false
set_option linter.unusedSimpArgs false

/-- what up to four have, as a value, as a block -/
def blk4 (l : List Int) : Array Value := #[.int .i64 (l.getD 0 0), .int .i64 (l.getD 1 0), .int .i64 (l.getD 2 0), .int .i64 (l.getD 3 0)]
abbrev arr4 (l : List Int) : Value := .agg #[.int .i64 (l.getD 0 0), .int .i64 (l.getD 1 0), .int .i64 (l.getD 2 0), .int .i64 (l.getD 3 0)]
theorem blk4_set {h : List Int} {i : Nat} (w : Int) (hi : i < h.length) (h4 : h.length ≤ 4) : (blk4 h).setIfInBounds i (.int .i64 (h.getD i 0 + w)) = blk4 (bumpL h i w) := by
  unfold bumpL blk4
  rcases (show i = 0 ∨ i = 1 ∨ i = 2 ∨ i = 3 by omega) with rfl | rfl | rfl | rfl <;> simp [List.getD, List.getElem?_set, hi]
theorem getD_len {l : List Int} {j : Nat} (h : l.length ≤ j) : l.getD j 0 = 0 := by simp [List.getD, List.getElem?_eq_none h]
theorem blk4_put {z s : List Int} (hl : s.length = z.length) (h4 : z.length ≤ 4) : Go.Sort.putCells (Value.int .i64) 0 s.toArray (blk4 z) = blk4 s := by
  apply Array.ext
  · simp [Go.Sort.putCells, blk4]
  · intro j h1 h2
    have hj : j < 4 := by simpa [blk4] using h2
    have key : ∀ k, k < 4 → (if 0 ≤ k ∧ k < 0 + s.toArray.size then Value.int .i64 s.toArray[k - 0]! else Value.int .i64 (z.getD k 0)) = Value.int .i64 (s.getD k 0) := fun k hk => by
      by_cases hs : k < s.length
      · rw [if_pos (by simp; omega)]
        simp [List.getD, hs]
      · rw [if_neg (by simp; omega), getD_len (by omega), getD_len (by omega)]
    simp only [Go.Sort.putCells, Array.getElem_mapIdx]
    rcases (show j = 0 ∨ j = 1 ∨ j = 2 ∨ j = 3 by omega) with rfl | rfl | rfl | rfl
    · exact key 0 (by omega)
    · exact key 1 (by omega)
    · exact key 2 (by omega)
    · exact key 3 (by omega)
/-- block g holds what up to four have -/
def Bx (w : World) (g : Nat) (l : List Int) : Prop := w.heap[g]? = some (.cells (blk4 l) 52 (0, 0))
theorem Bx.cell {w : World} {g : Nat} {l : List Int} (h : Bx w g l) {j : Nat} (hj : j < 4) : w.cell? ⟨g, j, none⟩ = some (.int .i64 (l.getD j 0)) := by
  unfold Bx blk4 at h
  rcases (show j = 0 ∨ j = 1 ∨ j = 2 ∨ j = 3 by omega) with rfl | rfl | rfl | rfl <;> simp [World.cell?, h]
theorem Bx.frozen {w : World} {g : Nat} {l : List Int} (h : Bx w g l) (j : Nat) : w.frozen? ⟨g, j, none⟩ = false := by
  unfold Bx at h
  simp [World.frozen?, h]
theorem Bx.lt {w : World} {g : Nat} {l : List Int} (h : Bx w g l) : g < w.heap.size := (Array.getElem?_eq_some_iff.1 h).1
theorem Bx.set {w : World} {g : Nat} {h : List Int} (hb : Bx w g h) {i : Nat} (v : Int) (hi : i < h.length) (h4 : h.length ≤ 4) : Bx (w.setCell ⟨g, i, none⟩ (.int .i64 (h.getD i 0 + v))) g (bumpL h i v) := by
  unfold Bx at *
  rw [← blk4_set v hi h4]
  exact heap_setCell_same w g i _ _ _ hb
theorem Bx.other {w : World} {g : Nat} {h : List Int} (hb : Bx w g h) {a : Addr} (ha : a.block ≠ g) (u : Value) : Bx (w.setCell a u) g h := by
  unfold Bx at *
  rw [heap_setCell_other w a g u (fun e => ha e.symm)]
  exact hb
theorem Bx.grown {w w' : World} {g : Nat} {h : List Int} (hb : Bx w g h) {r : Option Nat} (hg : w.grownBy w' r) (hr : some g ≠ r) : Bx w' g h := (hg.block g hb.lt hr).trans hb
theorem Bx.below {w w' : World} {g B : Nat} {h : List Int} (hb : Bx w g h) (hw : Below B w w') (hB : w.heap.size ≤ B) : Bx w' g h := (hw.block g (by have := hb.lt; omega)).trans hb
theorem Bx.new (w : World) (l : List Int) : Bx (w.alloc (.cells #[.int .i64 (l.getD 0 0), .int .i64 (l.getD 1 0), .int .i64 (l.getD 2 0), .int .i64 (l.getD 3 0)] 52)) w.heap.size l := heap_alloc_new w _
theorem Bx.alloc {w : World} {g : Nat} {h : List Int} (hb : Bx w g h) (o : Obj) : Bx (w.alloc o) g h := (heap_alloc_old w o hb.lt).trans hb
theorem Bx.holds {w : World} {g : Nat} {l : List Int} (h : Bx w g l) (h4 : l.length ≤ 4) : Go.Sort.Holds (Value.int .i64) w g 0 l.toArray := by
  intro j hj
  have hj' : j < l.length := by simpa using hj
  rw [Nat.zero_add]
  refine ⟨?_, h.frozen j⟩
  rw [h.cell (by omega)]
  simp [List.getD, hj']

theorem sortB (w : World) (g c : Nat) (z : List Int) (hb : Bx w g z) (h4 : z.length ≤ 4) :
    Calls Try.prog 52 #[.slice (some ⟨g, 0, none⟩) z.length c] w fun e w' => e = .returned (.tuple #[]) ∧ Bx w' g (srt z) ∧ w.grownBy w' (some g) := by
  refine (Try.slices_Sort_int g 0 c z w (hb.holds h4) hb.lt (by omega)).mono ?_
  rintro e w' ⟨rfl, nn, os, rfl⟩
  refine ⟨rfl, ?_, grownBy_sortedI _⟩
  unfold Bx
  rw [heap_sortedI _ hb]
  rw [show Go.Sort.putCells (Value.int .i64) 0 (z.mergeSort fun x y => decide (x ≤ y)).toArray (blk4 z) = blk4 (srt z) from blk4_put (length_srt z) h4]

theorem slice4 (a : Addr) (m : Nat) (h : m ≤ 4) (w : World) : (Instr.sliceAt 52 (.pointer (some a)) none (some (.int .i64 (m : Int))) (some (.int .i64 (m : Int)))).run Try.prog w = .ok (.slice (some a) m m) w := by
  have hal : Try.prog.arrayLen 52 = 4 := by kernel_rfl
  rw [run_sliceAt_array_hm w 52 a (by simp [Program.arrayLen, Program.elem, Try.underlying52]) .i64 .i64 (m : Int) (m : Int) (by omega) (by omega) (by rw [hal]; omega)]
  have he : Try.prog.elem 52 = 3 := by kernel_rfl
  rw [he, Try.sizeOf3]
  by_cases hm : m = 0 <;> simp [slicedAt, Addr.add, Result.andThen, hm]

set_option maxRecDepth 100000 in
set_option maxHeartbeats 2000000 in
theorem with_any (h : List Int) (i : Nat) (v : Int) (w : World) (hi : i < h.length) (h4 : h.length ≤ 4) (hx : 0 ≤ h.getD i 0 ∧ h.getD i 0 ≤ 100000) (hv : 0 ≤ v ∧ v ≤ 1000) :
    Calls Try.prog 78 #[arr4 h, .int .i64 i, .int .i64 v, .int .i64 h.length] w fun e w' => e = .returned (arr4 (srt (bumpL h i v))) ∧ Below w.heap.size w w' := by
  have b0 := (Bx.new w h).alloc (.cells #[.int .i64 0, .int .i64 0, .int .i64 0, .int .i64 0] 52)
  have z0 := Bx.new (w.alloc (.cells #[.int .i64 (h.getD 0 0), .int .i64 (h.getD 1 0), .int .i64 (h.getD 2 0), .int .i64 (h.getD 3 0)] 52)) []
  have hs1 : (w.alloc (.cells #[.int .i64 (h.getD 0 0), .int .i64 (h.getD 1 0), .int .i64 (h.getD 2 0), .int .i64 (h.getD 3 0)] 52)).heap.size = w.heap.size + 1 := by simp
  have hB0 : Below w.heap.size w ((w.alloc (.cells #[.int .i64 (h.getD 0 0), .int .i64 (h.getD 1 0), .int .i64 (h.getD 2 0), .int .i64 (h.getD 3 0)] 52)).alloc (.cells #[.int .i64 0, .int .i64 0, .int .i64 0, .int .i64 0] 52)) := ((Below.refl _ _).alloc (Nat.le_refl _) _).alloc (by simp) _
  rw [hs1] at z0
  have e00 : ([] : List Int).getD 0 0 = 0 ∧ ([] : List Int).getD 1 0 = 0 ∧ ([] : List Int).getD 2 0 = 0 ∧ ([] : List Int).getD 3 0 = 0 := by simp
  rw [e00.1, e00.2.1, e00.2.2.1, e00.2.2.2] at z0
  clear e00
  have hs2 : ((w.alloc (.cells #[.int .i64 (h.getD 0 0), .int .i64 (h.getD 1 0), .int .i64 (h.getD 2 0), .int .i64 (h.getD 3 0)] 52)).alloc (.cells #[.int .i64 0, .int .i64 0, .int .i64 0, .int .i64 0] 52)).heap.size = w.heap.size + 2 := by simp
  obtain ⟨W0, HW0⟩ : ∃ W0, Hid ((w.alloc (.cells #[.int .i64 (h.getD 0 0), .int .i64 (h.getD 1 0), .int .i64 (h.getD 2 0), .int .i64 (h.getD 3 0)] 52)).alloc (.cells #[.int .i64 0, .int .i64 0, .int .i64 0, .int .i64 0] 52) = W0) := ⟨_, rfl⟩
  have hW := HW0.out
  rw [hW] at b0 z0 hB0 hs2
  have e1 := b0.cell (j := i) (by omega)
  have f1 := b0.frozen i
  have hwr : IntKind.i64.wrap (h.getD i 0 + v) = h.getD i 0 + v := IntWalk.i64_in _ (by omega)
  have b1 := b0.set v hi h4
  have z1 := Lib.hid (z0.other (a := ⟨w.heap.size, i, none⟩) (by simp) (.int .i64 (h.getD i 0 + v)))
  have B1 := Lib.hid (bset (p := ⟨w.heap.size, i, none⟩) (Nat.le_refl _) (.int .i64 (h.getD i 0 + v)) hB0)
  have HS := Lib.hid (sortB _ _ h.length _ b1 (by rw [length_bumpL]; exact h4))
  rw [length_bumpL] at HS
  have hi4 : i < 4 := by omega
  have hsl := slice4 ⟨w.heap.size, 0, none⟩ h.length h4
  obtain ⟨m, hm⟩ : ∃ m, Hid (h.length = m) := ⟨_, rfl⟩
  rw [hm.out] at HS h4 hi hsl ⊢
  obtain ⟨x, hxx⟩ : ∃ x, Hid (h.getD i 0 = x) := ⟨_, rfl⟩
  rw [hxx.out] at e1 hwr HS z1 B1 hx
  obtain ⟨S, hS⟩ : ∃ S, Hid (srt (bumpL h i v) = S) := ⟨_, rfl⟩
  rw [hS.out] at HS ⊢
  clear hW hs1 b0 z0 hB0 b1
  show Calls Try.prog 78 #[.agg #[.int .i64 (h.getD 0 0), .int .i64 (h.getD 1 0), .int .i64 (h.getD 2 0), .int .i64 (h.getD 3 0)], .int .i64 i, .int .i64 v, .int .i64 m] w fun e w' => e = .returned (.agg #[.int .i64 (S.getD 0 0), .int .i64 (S.getD 1 0), .int .i64 (S.getD 2 0), .int .i64 (S.getD 3 0)]) ∧ Below w.heap.size w w'
  obtain ⟨a0, ha0⟩ : ∃ x, Hid (h.getD 0 0 = x) := ⟨_, rfl⟩
  obtain ⟨a1, ha1⟩ : ∃ x, Hid (h.getD 1 0 = x) := ⟨_, rfl⟩
  obtain ⟨a2, ha2⟩ : ∃ x, Hid (h.getD 2 0 = x) := ⟨_, rfl⟩
  obtain ⟨a3, ha3⟩ : ∃ x, Hid (h.getD 3 0 = x) := ⟨_, rfl⟩
  rw [ha0.out, ha1.out, ha2.out, ha3.out] at HW0 ⊢
  clear ha0 ha1 ha2 ha3
  obtain ⟨s0, hs0⟩ : ∃ x, Hid (S.getD 0 0 = x) := ⟨_, rfl⟩
  obtain ⟨s1, hs1⟩ : ∃ x, Hid (S.getD 1 0 = x) := ⟨_, rfl⟩
  obtain ⟨s2, hs2'⟩ : ∃ x, Hid (S.getD 2 0 = x) := ⟨_, rfl⟩
  obtain ⟨s3, hs3⟩ : ∃ x, Hid (S.getD 3 0 = x) := ⟨_, rfl⟩
  rw [hs0.out, hs1.out, hs2'.out, hs3.out]
  go_enter Try.func78, Try.ntmps78
  go_wp2_with (rw [HW0.out])
  refine HS.out.mono ?_; rintro e w3 ⟨rfl, b3, hg3⟩
  have z3 := z1.out.grown hg3 (by simp)
  have B3 := Lib.hid (B1.out.grown hg3 (by simp; omega) (fun k hk => by cases hk; exact Nat.le_refl _))
  have c0 := b3.cell (j := 0) (by omega)
  have c1 := b3.cell (j := 1) (by omega)
  have c2 := b3.cell (j := 2) (by omega)
  have c3 := b3.cell (j := 3) (by omega)
  rw [hs0.out] at c0
  rw [hs1.out] at c1
  rw [hs2'.out] at c2
  rw [hs3.out] at c3
  have g0 := z3.frozen 0
  have g1 := z3.frozen 1
  have g2 := z3.frozen 2
  have g3 := z3.frozen 3
  have y0 : w3.cell? ⟨w.heap.size + 1, 0, none⟩ = some (.int .i64 0) := z3.cell (j := 0) (by omega)
  have y1 : w3.cell? ⟨w.heap.size + 1, 1, none⟩ = some (.int .i64 0) := z3.cell (j := 1) (by omega)
  have y2 : w3.cell? ⟨w.heap.size + 1, 2, none⟩ = some (.int .i64 0) := z3.cell (j := 2) (by omega)
  have y3 : w3.cell? ⟨w.heap.size + 1, 3, none⟩ = some (.int .i64 0) := z3.cell (j := 3) (by omega)
  have l3 := z3.lt
  have BB := Lib.hid (fun u0 u1 u2 u3 => bset (p := ⟨w.heap.size + 1, 3, none⟩) (by simp) u3 (bset (p := ⟨w.heap.size + 1, 2, none⟩) (by simp) u2 (bset (p := ⟨w.heap.size + 1, 1, none⟩) (by simp) u1 (bset (p := ⟨w.heap.size + 1, 0, none⟩) (by simp) u0 B3.out))))
  clear b3 z3 hg3 HS z1 B1 e1 f1 hs0 hs1 hs2' hs3
  go_wp2
  refine bodyPost_ret (v := .agg #[.int .i64 s0, .int .i64 s1, .int .i64 s2, .int .i64 s3]) (by simp [results, Try.results78, go_sem, *]) rfl ⟨rfl, BB.out _ _ _ _⟩
end Go.Proofs.Ytkijcpbjjbhnhaa
