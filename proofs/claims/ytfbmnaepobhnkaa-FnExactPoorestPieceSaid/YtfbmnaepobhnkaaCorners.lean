/-
  Contract: the table of corners, of the program: how many nuts are above a row and to the left of a column.
-/
import Derived.Test.YtfbmnaepobhnkaaWithin
import Derived.Test.YtfbmnaepobhnkaaBarOf
import Derived.StillTailTactics
namespace Go.Proofs.Ytfbmnaepobhnkaa
open Go.RowKit
set_option linter.unusedVariables false

def zc_64 : Array Value := Array.replicate 81 (.int .i64 0)
theorem zero_64 (w : World) : (zeroValue 64).run Try.prog w = .ok (.agg zc_64) w := by kernel_rfl
theorem zc_64_ne : ¬ zc_64 = #[] := by intro h; have := congrArg Array.size h; simp [zc_64] at this
/-- a cell of the table when row y is done, and the next one up to column x -/
def cornV (ss : List ByteArray) (W y x k : Nat) : Int := if k % 9 ≤ W ∧ (k / 9 ≤ y ∨ k / 9 = y + 1 ∧ k % 9 ≤ x) then (rect ss 0 0 (k % 9) (k / 9) : Nat) else 0
def cornA (ss : List ByteArray) (W y x : Nat) : Array Value := Array.ofFn (n := 81) fun k => .int .i64 (cornV ss W y x k)
theorem size_cornA (ss : List ByteArray) (W y x : Nat) : (cornA ss W y x).size = 81 := by simp [cornA]
theorem cornA_at (ss : List ByteArray) (W y x k : Nat) (h : k < 81) : (cornA ss W y x)[k]? = some (.int .i64 (cornV ss W y x k)) := by
  simp [cornA, h]
theorem rect_w0 (ss : List ByteArray) (x y h : Nat) : rect ss x y 0 h = 0 := by
  induction h with
  | zero => rfl
  | succ h ih => show rect ss x y 0 h + rs (nutV ss (y + h)) x 0 = 0; rw [ih]; rfl
theorem rect_step (ss : List ByteArray) (x y : Nat) : rect ss 0 0 (x + 1) (y + 1) + rect ss 0 0 x y = rect ss 0 0 (x + 1) y + rect ss 0 0 x (y + 1) + nutV ss y x := by
  have h1 : rect ss 0 0 (x + 1) (y + 1) = rect ss 0 0 (x + 1) y + (rs (nutV ss (0 + y)) 0 x + nutV ss (0 + y) (0 + x)) := rfl
  have h2 : rect ss 0 0 x (y + 1) = rect ss 0 0 x y + rs (nutV ss (0 + y)) 0 x := rfl
  simp only [Nat.zero_add] at h1 h2
  omega
theorem cornA_zero (ss : List ByteArray) (W : Nat) : cornA ss W 0 0 = Array.replicate 81 (.int .i64 0) := by
  apply Array.ext
  · simp [cornA]
  · intro k h1 h2
    have hk : k < 81 := by simpa [cornA] using h1
    simp only [cornA, Array.getElem_ofFn, Array.getElem_replicate]
    congr 1
    unfold cornV
    split
    · rename_i h
      rcases h.2 with h | ⟨h, h'⟩
      · have e : k / 9 = 0 := by omega
        rw [e]; rfl
      · have e : k % 9 = 0 := by omega
        rw [e, rect_w0]; rfl
    · rfl
theorem cornA_row (ss : List ByteArray) (W y : Nat) (hW : W ≤ 8) : cornA ss W y W = cornA ss W (y + 1) 0 := by
  apply Array.ext
  · simp [cornA]
  · intro k h1 h2
    simp only [cornA, Array.getElem_ofFn]
    congr 1
    unfold cornV
    by_cases h0 : k % 9 = 0
    · rw [h0, rect_w0]; simp
    · by_cases h : k % 9 ≤ W ∧ k / 9 ≤ y + 1
      · rw [if_pos ⟨h.1, by omega⟩, if_pos ⟨h.1, .inl h.2⟩]
      · rw [if_neg (by omega), if_neg (by omega)]
theorem cornA_set (ss : List ByteArray) (W y x : Nat) (hx : x + 1 ≤ W) (hW : W ≤ 8) (hy : y + 1 ≤ 8) : (cornA ss W y x).setIfInBounds ((y + 1) * 9 + (x + 1)) (.int .i64 (rect ss 0 0 (x + 1) (y + 1) : Nat)) = cornA ss W y (x + 1) := by
  apply Array.ext
  · simp [cornA]
  · intro k h1 h2
    have hk : k < 81 := by simpa [cornA] using h2
    rw [Array.getElem_setIfInBounds (by simpa [cornA] using hk)]
    simp only [cornA, Array.getElem_ofFn]
    split
    · rename_i e
      subst e
      have e1 : ((y + 1) * 9 + (x + 1)) % 9 = x + 1 := by omega
      have e2 : ((y + 1) * 9 + (x + 1)) / 9 = y + 1 := by omega
      unfold cornV
      rw [e1, e2, if_pos ⟨hx, .inr ⟨rfl, Nat.le_refl _⟩⟩]
    · rename_i e
      congr 1
      unfold cornV
      by_cases h : k % 9 ≤ W ∧ (k / 9 ≤ y ∨ k / 9 = y + 1 ∧ k % 9 ≤ x)
      · rw [if_pos h, if_pos ⟨h.1, by omega⟩]
      · rw [if_neg h, if_neg (by omega)]

/-- block g is such a table -/
def RowAt (w : World) (g : Nat) (cs : Array Value) : Prop := w.heap[g]? = some (.cells cs 64 (0, 0))
theorem RowAt.lt {w : World} {g : Nat} {cs : Array Value} (h : RowAt w g cs) : g < w.heap.size := (Array.getElem?_eq_some_iff.1 h).1
theorem RowAt.cell {w : World} {g k : Nat} {cs : Array Value} {v : Value} (h : RowAt w g cs) (hk : cs[k]? = some v) : w.cell? ⟨g, k, none⟩ = some v := (cell_of_row w g k cs _ _ h).trans hk
theorem RowAt.free {w : World} {g k : Nat} {cs : Array Value} (h : RowAt w g cs) : w.frozen? ⟨g, k, none⟩ = false := by
  unfold RowAt at h
  simp [World.frozen?, h]
theorem RowAt.drew {w : World} {g : Nat} {cs : Array Value} (h : RowAt w g cs) : RowAt w.drew g cs := h
theorem RowAt.set {w : World} {g k : Nat} {cs : Array Value} {v : Value} (h : RowAt w g cs) : RowAt (w.setCell ⟨g, k, none⟩ v) g (cs.setIfInBounds k v) := by
  unfold RowAt at h ⊢
  simp [World.setCell, Array.getElem?_modify, h]
theorem RowAt.other {w : World} {g f k : Nat} {cs : Array Value} {v : Value} (h : RowAt w g cs) (hn : f ≠ g) : RowAt (w.setCell ⟨f, k, none⟩ v) g cs := by
  unfold RowAt at h ⊢
  simp [World.setCell, Array.getElem?_modify, h, hn]

theorem RowAt.new (w : World) (cs : Array Value) : RowAt (w.alloc (.cells cs 64)) w.heap.size cs := by
  unfold RowAt
  show (w.heap.push _)[w.heap.size]? = _
  simp
theorem RowAt.alloc {w : World} {g : Nat} {cs : Array Value} (h : RowAt w g cs) (ob : Obj) : RowAt (w.alloc ob) g cs := by
  have hl := h.lt
  unfold RowAt at h ⊢
  show (w.heap.push ob)[g]? = _
  rw [Array.getElem?_push, if_neg (by omega)]
  exact h
theorem corn_vals (ss : List ByteArray) {W y x : Nat} (hx : x + 1 ≤ W) (hW : W ≤ 8) :
    cornV ss W y x (y * 9 + (x + 1)) = (rect ss 0 0 (x + 1) y : Nat) ∧ cornV ss W y x ((y + 1) * 9 + x) = (rect ss 0 0 x (y + 1) : Nat) ∧ cornV ss W y x (y * 9 + x) = (rect ss 0 0 x y : Nat) := by
  refine ⟨?_, ?_, ?_⟩
  · have e1 : (y * 9 + (x + 1)) % 9 = x + 1 := by omega
    have e2 : (y * 9 + (x + 1)) / 9 = y := by omega
    unfold cornV
    rw [e1, e2, if_pos ⟨hx, .inl (Nat.le_refl _)⟩]
  · have e1 : ((y + 1) * 9 + x) % 9 = x := by omega
    have e2 : ((y + 1) * 9 + x) / 9 = y + 1 := by omega
    unfold cornV
    rw [e1, e2, if_pos ⟨by omega, .inr ⟨rfl, Nat.le_refl _⟩⟩]
  · have e1 : (y * 9 + x) % 9 = x := by omega
    have e2 : (y * 9 + x) / 9 = y := by omega
    unfold cornV
    rw [e1, e2, if_pos ⟨by omega, .inl (Nat.le_refl _)⟩]

theorem below_setRow {a w : World} (h : Below a.heap.size a w) (cs : Array Value) : Below a.heap.size a (w.setRow a.heap.size cs) :=
  ⟨h.os, h.tape, h.output, by have := h.size; simpa [World.setRow] using this, fun b hb => by
    have e := h.block b hb
    rw [setRow_other w a.heap.size b cs (by omega)]
    exact e⟩
theorem oneCell_cornA (ss : List ByteArray) (W y x : Nat) : (cornA ss W y x).all (·.oneCell') = true := by
  rw [Array.all_eq_true]
  intro i h
  simp only [cornA, Array.getElem_ofFn]
  rfl
set_option maxHeartbeats 400000 in
theorem nutsAt_cell (b o n c x y v : Nat) (s : ByteArray) (w : World) (p : w.cell? ⟨b, o + y, none⟩ = some (.string s)) (hy : y < n) (hx : x < s.size) (c1 : 48 ≤ (s[x]).toNat) (c2 : (s[x]).toNat ≤ 57) (hv : ((s[x]).toNat : Int) - 48 = v) :
    Calls Try.prog 55 #[.slice (some ⟨b, o, none⟩) n c, .int .i64 x, .int .i64 y] w fun e w' => e = .returned (.int .i64 (v : Nat)) ∧ w = w' := by
  have HV := Lib.hid hv
  clear hv
  go_enter Try.func55, Try.ntmps55
  go_wp2
  go_ret
  exact ⟨ret_int HV.out, rfl⟩

set_option maxRecDepth 100000 in
set_option maxHeartbeats 1000000 in
theorem corners_any (A : Option Addr) (n c W : Nat) (ss : List ByteArray) (w : World) (hr : Rd w 1 A n (strCells ss)) (hb : NB ss W n) :
    Calls Try.prog 38 #[.slice A n c] w fun e w' => e = .returned (.agg (cornA ss W n 0)) ∧ Below w.heap.size w w' := by
  have hn1 := hb.h1
  have hn8 := hb.h8
  have hW8 := hb.w8
  have hl := hr.slen
  have HL := Lib.hid hl
  clear hl
  have z81 := cornA_zero ss W
  have zc : zc_64 = cornA ss W 0 0 := by rw [z81]; kernel_rfl
  have r1 := ((RowAt.new w (cornA ss W 0 0)).alloc (.cells (cornA ss W 0 0) 64))
  have r2 := RowAt.new (w.alloc (.cells (cornA ss W 0 0) 64)) (cornA ss W 0 0)
  have R1 := Lib.hid r1
  have R2 := Lib.hid r2
  clear r1 r2
  have HZ := Lib.hid zc
  clear z81 zc
  have hzf := fun wx => zero_64 wx; have hze := zc_64_ne
  go_enter Try.func38, Try.ntmps38
  go_wp2
  go_loopw [8] (fun i wr => ∃ y : Nat, y ≤ n ∧ i = .int .i64 y ∧ RowAt wr w.heap.size (cornA ss W 0 0) ∧ RowAt wr (w.heap.size + 1) (cornA ss W y 0) ∧ Below w.heap.size w wr) (fun i _ => n - (intOf i).toNat)
  case atStart => exact ⟨0, Nat.zero_le _, rfl, by rw [HZ.out]; exact R1.out, by rw [HZ.out]; have h := R2.out; rw [show (w.alloc (.cells (cornA ss W 0 0) 64)).heap.size = w.heap.size + 1 from by simp] at h; exact h, by (repeat (first | (with_reducible exact Below.refl _ _) | (with_reducible assumption) | (with_reducible refine Below.drew ?_) | ((with_reducible refine balloc ?_ _ ?_); · (first | (simp; done) | (simp; omega) | omega)) | ((with_reducible refine bset ?_ _ ?_); · (first | (simp; done) | (simp; omega) | omega)) | (with_reducible refine bdrewN _ ?_) | ((with_reducible refine bcall ?_ (by assumption) ?_); · (first | (simp; done) | (simp; omega) | omega))))⟩
  case round =>
    obtain ⟨y, hy, rfl, hR1, hR2, hB⟩ := hrel
    clear R1 R2
    by_cases hlt : y < n
    · obtain ⟨b, o, rfl, _, hx, p⟩ := (hr.later hB (Nat.le_refl _)).str hlt
      have hsW := (hb.row _ (List.getElem_mem hx)).1
      generalize ss[y] = s at *
      go_wp2
      go_loopw [16] (fun i wr => ∃ x : Nat, x ≤ W ∧ i = .int .i64 x ∧ RowAt wr w.heap.size (cornA ss W 0 0) ∧ RowAt wr (w.heap.size + 1) (cornA ss W y x) ∧ Below w.heap.size w wr) (fun i _ => W - (intOf i).toNat)
      case atStart => exact ⟨0, Nat.zero_le _, rfl, hR1, hR2, hB⟩
      case round =>
        clear hR1 hR2 hB p
        obtain ⟨x, hxW, rfl, hR1, hR2, hB⟩ := hrel
        by_cases hlx : x < W
        · have hrd := hr.later hB (Nat.le_refl _)
          obtain ⟨v1, v2, v3⟩ := corn_vals ss (W := W) (y := y) (x := x) hlx hW8
          have c1 := hR2.cell (cornA_at ss W y x (y * 9 + (x + 1)) (by omega))
          have c2 := hR2.cell (cornA_at ss W y x ((y + 1) * 9 + x) (by omega))
          have c3 := hR2.cell (cornA_at ss W y x (y * 9 + x) (by omega))
          have c4 := hR2.cell (cornA_at ss W y x ((y + 1) * 9 + (x + 1)) (by omega))
          have f4 := hR2.free (k := (y + 1) * 9 + (x + 1))
          rw [v1] at c1
          rw [v2] at c2
          rw [v3] at c3
          have q1 := rect_576 hb (x := 0) (y := 0) (w := x + 1) (h := y) (by omega) (by omega)
          have q2 := rect_576 hb (x := 0) (y := 0) (w := x) (h := y + 1) (by omega) (by omega)
          have q3 := rect_576 hb (x := 0) (y := 0) (w := x) (h := y) (by omega) (by omega)
          have q4 := hb.val_le hlt hlx
          have HST := Lib.hid (rect_step ss x y)
          have HSET := Lib.hid (cornA_set ss W y x hlx hW8 (by omega))
          obtain ⟨s', p', _, hxs, d1, d2, hby, hv⟩ := hrd.nut hb hlt hlx
          have HNA := Lib.hid (fun (wx : World) (hp : wx.cell? ⟨b, o + y, none⟩ = some (.string s')) => (nutsAt_cell b o n c x y (nutV ss y x) s' wx hp hlt hxs d1 d2 hv.out).mono fun e w' h => And.intro h.1 h.2.symm)
          clear d1 d2 hv hby hxs
          have e1 : ((y : Int) + 1).toNat = y + 1 := by omega
          have e2 : ((x : Int) + 1).toNat = x + 1 := by omega
          generalize cornV ss W y x ((y + 1) * 9 + (x + 1)) = old at *
          generalize rect ss 0 0 (x + 1) y = p1 at *
          generalize rect ss 0 0 x (y + 1) = p2 at *
          generalize rect ss 0 0 x y = p3 at *
          generalize nutV ss y x = nv at *
          generalize rect ss 0 0 (x + 1) (y + 1) = p4 at *
          have HR1 := Lib.hid hR1
          have HR2 := Lib.hid hR2
          have HB := Lib.hid hB
          clear hR1 hR2 hB v1 v2 v3 hrd
          go_wp2
          have g1 : (y : Int) < 9 := by omega
          have g2 : (y : Int) + 1 < 9 := by omega
          have g3 : (x : Int) < 9 := by omega
          have g4 : (x : Int) + 1 < 9 := by omega
          have g5 : (0 : Int) ≤ (y : Int) + 1 := by omega
          have g6 : (0 : Int) ≤ (x : Int) + 1 := by omega
          have w1 : IntKind.i64.wrap ((y : Int) + 1) = (y : Int) + 1 := IntWalk.i64_in _ (by omega)
          have w2 : IntKind.i64.wrap ((x : Int) + 1) = (x : Int) + 1 := IntWalk.i64_in _ (by omega)
          have w3 : IntKind.i64.wrap ((p1 : Int) + (p2 : Int)) = (p1 : Int) + (p2 : Int) := IntWalk.i64_in _ (by omega)
          have w4 : IntKind.i64.wrap ((p1 : Int) + (p2 : Int) - (p3 : Int)) = (p1 : Int) + (p2 : Int) - (p3 : Int) := IntWalk.i64_in _ (by omega)
          have w5 : IntKind.i64.wrap ((p1 : Int) + (p2 : Int) - (p3 : Int) + (nv : Int)) = (p1 : Int) + (p2 : Int) - (p3 : Int) + (nv : Int) := IntWalk.i64_in _ (by omega)
          go_still_tail 30, (by kernel_rfl)
          still_call (HNA.out _ p')
          repeat still_step
          refine wpStill_nil ?_
          change wpList _ _ _ _ _ wr.drew
          have hR1' := HR1.out.drew
          have hR2' := HR2.out.drew
          have hB' := HB.out.drew
          have c5 : wr.drew.cell? ⟨w.heap.size + 1, (y + 1) * 9 + (x + 1), none⟩ = some (.int .i64 old) := c4
          have f5 : wr.drew.frozen? ⟨w.heap.size + 1, (y + 1) * 9 + (x + 1), none⟩ = false := f4
          clear c1 c2 c3 c4 f4 p' HR1 HR2 HB HNA
          generalize wr.drew = wd at *
          have RS := Lib.hid (hR2'.set (k := (y + 1) * 9 + (x + 1)) (v := .int .i64 ((p1 : Int) + (p2 : Int) - (p3 : Int) + (nv : Int))))
          have RO := Lib.hid (hR1'.other (f := w.heap.size + 1) (k := (y + 1) * 9 + (x + 1)) (v := .int .i64 ((p1 : Int) + (p2 : Int) - (p3 : Int) + (nv : Int))) (by omega))
          have HBS := Lib.hid (hB'.setCell (p := ⟨w.heap.size + 1, (y + 1) * 9 + (x + 1), none⟩) (by simp) (.int .i64 ((p1 : Int) + (p2 : Int) - (p3 : Int) + (nv : Int))))
          have HV : Hid ((p1 : Int) + (p2 : Int) - (p3 : Int) + (nv : Int) = (p4 : Nat)) := by have := HST.out; simp only [Hid]; omega
          clear hR1' hR2' hB'
          go_wp2
          go_roundw
          case rel => exact ⟨x + 1, by omega, by go_num, RO.out, by rw [← HSET.out, ← HV.out]; exact RS.out, HBS.out⟩
          case measure => simp [intOf]; omega
        · have hxw : x = W := by omega
          subst hxw
          rw [cornA_row ss x y hW8] at hR2
          go_wp2
          go_roundw
          case rel => exact ⟨y + 1, by omega, by go_num, hR1, hR2, hB⟩
          case measure => simp [intOf]; omega
    · have hyn : y = n := by omega
      subst hyn
      have HSET := Lib.hid (setRow_heap wr w.heap.size _ (cornA ss W y 0) _ _ hR1)
      have HBR := Lib.hid (below_setRow hB (cornA ss W y 0))
      go_wp2_with (first | refine wpList_load_row rfl 64 _ rfl (w.heap.size + 1) rfl _ (cornA ss W y 0) _ _ hR2 Try.underlying64 rfl (by rw [size_cornA]; kernel_rfl) ?_ | refine wpList_store_row rfl 64 _ _ rfl w.heap.size (cornA ss W y 0) rfl rfl _ _ hR1 (by rw [size_cornA]; kernel_rfl) (by rw [size_cornA, size_cornA]) (oneCell_cornA _ _ _ _) ?_)
      refine bodyPost_ret (v := .agg (cornA ss W y 0)) (results_cell_row Try.results38 _ _ w.heap.size _ _ _ _ rfl HSET.out Try.underlying64 rfl (by rw [size_cornA]; kernel_rfl)) rfl ⟨rfl, HBR.out⟩

end Go.Proofs.Ytfbmnaepobhnkaa
