/-
  Words: the model's table of least costs while it is filled: the world at each of the three loops, and what a make, a call and a store do to it.
-/
import Derived.Test.YtobncknlipeinaaEatT
import Derived.OwnWalk
namespace Go.Proofs.Ytobncknlipeinaa
open Go.RowKit Go.Maps
set_option linter.unusedVariables false

structure TabSt (w wr : World) (X Y p : Nat) (M : C3) (tab : List Value) : Prop where
  b0 : wr.cell? ⟨w.heap.size, 0, none⟩ = some (.int .i64 X)
  b1 : wr.cell? ⟨w.heap.size, 1, none⟩ = some (.int .i64 Y)
  hT : wr.ownsRow (w.heap.size + 1) 45 1 (.slice (some ⟨w.heap.size + 1, 0, none⟩) (X + 1) (X + 1)) (X + 1) tab
  tb : TabT wr (w.heap.size + 1) (w.heap.size + 2) wr.heap.size Y p M
  dn : DoneM M Y p 1
  bl : Below w.heap.size w wr
structure ColSt (w wr : World) (X Y p q g : Nat) (M : C3) (tab cols : List Value) : Prop where
  b0 : wr.cell? ⟨w.heap.size, 0, none⟩ = some (.int .i64 X)
  b1 : wr.cell? ⟨w.heap.size, 1, none⟩ = some (.int .i64 Y)
  hT : wr.ownsRow (w.heap.size + 1) 45 1 (.slice (some ⟨w.heap.size + 1, 0, none⟩) (X + 1) (X + 1)) (X + 1) tab
  gl : w.heap.size + 2 ≤ g
  hC : wr.ownsRow (w.heap.size + 1) 44 1 (.slice (some ⟨g, 0, none⟩) (Y + 1) (Y + 1)) (Y + 1) cols
  tb : TabT wr (w.heap.size + 1) (w.heap.size + 2) g Y p M
  cl : ColC wr g (g + 1) wr.heap.size q p M
  dn : DoneM M Y p q
  bl : Below w.heap.size w wr
structure RowSt (w wr : World) (X Y p q N g pb r : Nat) (M : C3) (f : Nat → Int) (tab cols : List Value) : Prop where
  hN : N = p * q
  b0 : wr.cell? ⟨w.heap.size, 0, none⟩ = some (.int .i64 X)
  b1 : wr.cell? ⟨w.heap.size, 1, none⟩ = some (.int .i64 Y)
  hT : wr.ownsRow (w.heap.size + 1) 45 1 (.slice (some ⟨w.heap.size + 1, 0, none⟩) (X + 1) (X + 1)) (X + 1) tab
  gl : w.heap.size + 2 ≤ g
  hC : wr.ownsRow (w.heap.size + 1) 44 1 (.slice (some ⟨g, 0, none⟩) (Y + 1) (Y + 1)) (Y + 1) cols
  tb : TabT wr (w.heap.size + 1) (w.heap.size + 2) g Y p M
  pl : g + 1 ≤ pb
  p0 : wr.cell? ⟨pb, 0, none⟩ = some (.int .i64 p)
  p1 : wr.cell? ⟨pb, 1, none⟩ = some (.int .i64 q)
  rl : pb + 1 ≤ r
  hR : wr.ownsRow (w.heap.size + 1) 3 1 (.slice (some ⟨r, 0, none⟩) (N + 1) (N + 1)) (N + 1) (intCells (rowL f N))
  cl : ColC wr g (g + 1) r q p M
  dn : DoneM M Y p q
  bl : Below w.heap.size w wr

theorem own_blk {w : World} {B e z n c g : Nat} {xs : List Value} (h : w.ownsRow B e z (.slice (some ⟨g, 0, none⟩) n c) n xs) : g < w.heap.size := (h.lt g rfl).2

theorem TabSt.lt {w wr : World} {X Y p : Nat} {M : C3} {tab : List Value} (h : TabSt w wr X Y p M tab) : w.heap.size + 2 ≤ wr.heap.size := own_blk h.hT
/-- a column is made -/
theorem TabSt.col {w wr w' : World} {X Y p : Nat} {M : C3} {tab cols : List Value} (h : TabSt w wr X Y p M tab) (hg : wr.grownBy w' none)
    (ho : w'.ownsRow (w.heap.size + 1) 44 1 (.slice (some ⟨wr.heap.size, 0, none⟩) (Y + 1) (Y + 1)) (Y + 1) cols) : ColSt w w' X Y p 1 wr.heap.size M tab cols := by
  have hl := h.lt
  have hb : Below wr.heap.size wr w' := (Below.refl _ _).grown hg (Nat.le_refl _) (fun k hk => by cases hk)
  exact ⟨(hb.cell (p := ⟨w.heap.size, 0, none⟩) (show w.heap.size < wr.heap.size by omega)).trans h.b0, (hb.cell (p := ⟨w.heap.size, 1, none⟩) (show w.heap.size < wr.heap.size by omega)).trans h.b1,
    h.hT.kept hg (.inr (by simp [Value.ownBlock])), hl, ho, h.tb.below hb (by omega) (Nat.le_refl _), fun b h1 h2 => by omega, h.dn, h.bl.trans (hb.mono h.bl.size)⟩
theorem ColSt.lt {w wr : World} {X Y p q g : Nat} {M : C3} {tab cols : List Value} (h : ColSt w wr X Y p q g M tab cols) : g < wr.heap.size := own_blk h.hC
theorem ColSt.below {w wr w' : World} {X Y p q g : Nat} {M : C3} {tab cols : List Value} (h : ColSt w wr X Y p q g M tab cols) (hb : Below wr.heap.size wr w') : ColSt w w' X Y p q g M tab cols := by
  have hl := h.lt
  have hgl := h.gl
  exact ⟨(hb.cell (p := ⟨w.heap.size, 0, none⟩) (show w.heap.size < wr.heap.size by omega)).trans h.b0, (hb.cell (p := ⟨w.heap.size, 1, none⟩) (show w.heap.size < wr.heap.size by omega)).trans h.b1,
    own_later h.hT hb (Nat.le_refl _), hgl, own_later h.hC hb (Nat.le_refl _), h.tb.below hb (by omega) (by omega), (h.cl.below hb (by omega) (Nat.le_refl _)).mono hb.size, h.dn, h.bl.trans (hb.mono h.bl.size)⟩
/-- a row is made -/
theorem ColSt.row {w wr w' : World} {X Y p q N g pb : Nat} {M : C3} {tab cols : List Value} (h : ColSt w wr X Y p q g M tab cols) (hN : N = p * q) (hg : wr.grownBy w' none) (pl : g + 1 ≤ pb) (pr : pb < wr.heap.size)
    (p0 : wr.cell? ⟨pb, 0, none⟩ = some (.int .i64 p)) (p1 : wr.cell? ⟨pb, 1, none⟩ = some (.int .i64 q))
    (ho : w'.ownsRow (w.heap.size + 1) 3 1 (.slice (some ⟨wr.heap.size, 0, none⟩) (N + 1) (N + 1)) (N + 1) (intCells (rowL (fun _ => 0) N))) : RowSt w w' X Y p q N g pb wr.heap.size M (fun _ => 0) tab cols := by
  have hl := h.lt
  have hgl := h.gl
  have hb : Below wr.heap.size wr w' := (Below.refl _ _).grown hg (Nat.le_refl _) (fun k hk => by cases hk)
  exact ⟨hN, (hb.cell (p := ⟨w.heap.size, 0, none⟩) (show w.heap.size < wr.heap.size by omega)).trans h.b0, (hb.cell (p := ⟨w.heap.size, 1, none⟩) (show w.heap.size < wr.heap.size by omega)).trans h.b1,
    h.hT.kept hg (.inr (by simp [Value.ownBlock])), hgl, h.hC.kept hg (.inr (by simp [Value.ownBlock])), h.tb.below hb (by omega) (by omega), pl, (hb.cell (p := ⟨pb, 0, none⟩) pr).trans p0, (hb.cell (p := ⟨pb, 1, none⟩) pr).trans p1, pr, ho, h.cl.below hb (by omega) (Nat.le_refl _), h.dn, h.bl.trans (hb.mono h.bl.size)⟩
theorem RowSt.lt {w wr : World} {X Y p q N g pb r : Nat} {M : C3} {f : Nat → Int} {tab cols : List Value} (h : RowSt w wr X Y p q N g pb r M f tab cols) : r < wr.heap.size := own_blk h.hR
/-- behind a call that only makes memory -/
theorem RowSt.below {w wr w' : World} {X Y p q N g pb r : Nat} {M : C3} {f : Nat → Int} {tab cols : List Value} (h : RowSt w wr X Y p q N g pb r M f tab cols) (hb : Below wr.heap.size wr w') : RowSt w w' X Y p q N g pb r M f tab cols := by
  have hl := h.lt
  have hgl := h.gl
  have hrl := h.rl
  have hpl := h.pl
  exact ⟨h.hN, (hb.cell (p := ⟨w.heap.size, 0, none⟩) (show w.heap.size < wr.heap.size by omega)).trans h.b0, (hb.cell (p := ⟨w.heap.size, 1, none⟩) (show w.heap.size < wr.heap.size by omega)).trans h.b1,
    own_later h.hT hb (Nat.le_refl _), hgl, own_later h.hC hb (Nat.le_refl _), h.tb.below hb (by omega) (by omega), hpl, (hb.cell (p := ⟨pb, 0, none⟩) (show pb < wr.heap.size by omega)).trans h.p0, (hb.cell (p := ⟨pb, 1, none⟩) (show pb < wr.heap.size by omega)).trans h.p1, hrl, own_later h.hR hb (Nat.le_refl _), h.cl.below hb (by omega) (by omega), h.dn, h.bl.trans (hb.mono h.bl.size)⟩
theorem RowSt.drew {w wr : World} {X Y p q N g pb r : Nat} {M : C3} {f : Nat → Int} {tab cols : List Value} (h : RowSt w wr X Y p q N g pb r M f tab cols) : RowSt w wr.drew X Y p q N g pb r M f tab cols := h.below ((Below.refl wr.heap.size wr).drew)
theorem set_rowL (f : Nat → Int) (n s : Nat) (v : Int) (hs : s ≤ n) : (intCells (rowL f n)).set s (.int .i64 v) = intCells (rowL (fun j => if j = s then v else f j) n) := by
  rw [set_intCells]
  congr 1
  apply List.ext_getElem
  · simp [rowL]
  · intro j h1 h2
    rw [List.getElem_set]
    by_cases e : s = j
    · subst e; simp [rowL]
    · have : ¬ j = s := fun q => e q.symm
      simp [rowL, e, this]
def updF (f : Nat → Int) (s : Nat) (v : Int) : Nat → Int := fun j => if j = s then v else f j
theorem updF_upd (f : Nat → Int) (s : Nat) (v u : Int) : updF (updF f s v) s u = updF f s u := by
  funext j; unfold updF; split <;> rfl
theorem updF_at (f : Nat → Int) (s : Nat) (v : Int) : updF f s v s = v := if_pos rfl
theorem updF_ne {f : Nat → Int} {s j : Nat} {v : Int} (h : j ≠ s) : updF f s v j = f j := if_neg h
/-- a cost is put -/
theorem RowSt.set {w wr : World} {X Y p q N g pb r : Nat} {M : C3} {f : Nat → Int} {tab cols : List Value} (h : RowSt w wr X Y p q N g pb r M f tab cols) {s : Nat} (hs : s ≤ N) (v : Int) : RowSt w (wr.setCell ⟨r, s, none⟩ (.int .i64 v)) X Y p q N g pb r M (updF f s v) tab cols := by
  have hl := h.lt
  have hgl := h.gl
  have hrl := h.rl
  have hpl := h.pl
  have st := h.hR.stored s (.int .i64 v)
  rw [set_rowL f N s v hs] at st
  exact ⟨h.hN, (World.cell?_setCell_other _ _ _ _ (by intro e; injection e with e1; omega)).trans h.b0, (World.cell?_setCell_other _ _ _ _ (by intro e; injection e with e1; omega)).trans h.b1,
    h.hT.kept st.2 (.inr (by simp [Value.ownBlock]; omega)), hgl, h.hC.kept st.2 (.inr (by simp [Value.ownBlock]; omega)), h.tb.other (by omega) (by omega), hpl, (World.cell?_setCell_other _ _ _ _ (by intro e; injection e with e1; omega)).trans h.p0, (World.cell?_setCell_other _ _ _ _ (by intro e; injection e with e1; omega)).trans h.p1, hrl, st.1, h.cl.other (by omega) (.inl (Nat.le_refl _)), h.dn, bset (show w.heap.size ≤ r by omega) _ h.bl⟩
theorem RowSt.cell {w wr : World} {X Y p q N g pb r : Nat} {M : C3} {f : Nat → Int} {tab cols : List Value} (h : RowSt w wr X Y p q N g pb r M f tab cols) {s : Nat} (hs : s ≤ N) : wr.cell? ⟨r, s, none⟩ = some (.int .i64 (f s)) ∧ wr.frozen? ⟨r, s, none⟩ = false := by
  have a0 := h.hR.cellAt s (by omega)
  refine ⟨?_, h.hR.frozenAt s⟩
  rw [a0]
  simp [intCells, rowL, show s < N + 1 by omega]
theorem RowSt.rowC {w wr : World} {X Y p q N g pb r : Nat} {M : C3} {f : Nat → Int} {tab cols : List Value} (h : RowSt w wr X Y p q N g pb r M f tab cols) : RowC wr r (p * q) f := fun k hk => (h.cell (by have := h.hN; omega)).1
/-- a row is finished -/
theorem RowSt.done {w wr : World} {X Y p q N g pb r : Nat} {M : C3} {f : Nat → Int} {tab cols : List Value} (h : RowSt w wr X Y p q N g pb r M f tab cols) (hq : q ≤ Y) (f0 : f 0 = 0) (f1 : f N = 0) (f2 : ∀ s, 0 < s → s < N → IsMin (CandM M p q s) (f s)) :
    ColSt w (wr.setCell ⟨g, q, none⟩ (.slice (some ⟨r, 0, none⟩) (N + 1) (N + 1))) X Y p (q + 1) g (updE M p q f) tab (cols.set q (.slice (some ⟨r, 0, none⟩) (N + 1) (N + 1))) := by
  have hl := h.lt
  have hgl := h.gl
  have hrl := h.rl
  have hpl := h.pl
  have hN := h.hN
  have hlen : cols.length = (Y + 1) * 1 := h.hC.1
  have a0 := h.hC.cellAt q (by omega)
  rw [List.getElem?_eq_getElem (by omega)] at a0
  have st := h.hC.stored q (.slice (some ⟨r, 0, none⟩) (N + 1) (N + 1))
  have hcl : ColC (wr.setCell ⟨g, q, none⟩ (.slice (some ⟨r, 0, none⟩) (N + 1) (N + 1))) g (g + 1) wr.heap.size (q + 1) p (updE M p q f) := by
    have hrow := h.rowC
    rw [hN]
    refine ((h.cl.mono (Nat.le_of_lt hl)).congr fun b k b1 b2 hk => ?_).put a0 (by omega) (by omega) hl ?_
    · rw [updE_other (by omega)]
    · rw [updE_same]; exact hrow
  have sz : (wr.setCell ⟨g, q, none⟩ (.slice (some ⟨r, 0, none⟩) (N + 1) (N + 1))).heap.size = wr.heap.size := by simp
  refine ⟨(World.cell?_setCell_other _ _ _ _ (by intro e; injection e with e1; omega)).trans h.b0, (World.cell?_setCell_other _ _ _ _ (by intro e; injection e with e1; omega)).trans h.b1,
    h.hT.kept st.2 (.inr (by simp [Value.ownBlock]; omega)), hgl, st.1, (h.tb.other (by omega) (Nat.le_refl _)).congr fun a b k a1 a2 b1 b2 hk => by rw [updE_other (by omega)], by rw [sz]; exact hcl, h.dn.put f0 (by rw [← hN]; exact f1) (by rw [← hN]; exact f2), bset (show w.heap.size ≤ g by omega) _ h.bl⟩
theorem ColSt.frozen {w wr : World} {X Y p q g : Nat} {M : C3} {tab cols : List Value} (h : ColSt w wr X Y p q g M tab cols) {k : Nat} (hk : k ≤ Y) : (∃ v, wr.cell? ⟨g, k, none⟩ = some v) ∧ wr.frozen? ⟨g, k, none⟩ = false := by
  have hlen : cols.length = (Y + 1) * 1 := h.hC.1
  have a0 := h.hC.cellAt k (by omega)
  rw [List.getElem?_eq_getElem (by omega)] at a0
  exact ⟨⟨_, a0⟩, h.hC.frozenAt k⟩
theorem RowSt.colCell {w wr : World} {X Y p q N g pb r : Nat} {M : C3} {f : Nat → Int} {tab cols : List Value} (h : RowSt w wr X Y p q N g pb r M f tab cols) {k : Nat} (hk : k ≤ Y) : (∃ v, wr.cell? ⟨g, k, none⟩ = some v) ∧ wr.frozen? ⟨g, k, none⟩ = false := by
  have hlen : cols.length = (Y + 1) * 1 := h.hC.1
  have a0 := h.hC.cellAt k (by omega)
  rw [List.getElem?_eq_getElem (by omega)] at a0
  exact ⟨⟨_, a0⟩, h.hC.frozenAt k⟩
theorem ColSt.tabCell {w wr : World} {X Y p q g : Nat} {M : C3} {tab cols : List Value} (h : ColSt w wr X Y p q g M tab cols) {k : Nat} (hk : k ≤ X) : (∃ v, wr.cell? ⟨w.heap.size + 1, k, none⟩ = some v) ∧ wr.frozen? ⟨w.heap.size + 1, k, none⟩ = false := by
  have hlen : tab.length = (X + 1) * 1 := h.hT.1
  have a0 := h.hT.cellAt k (by omega)
  rw [List.getElem?_eq_getElem (by omega)] at a0
  exact ⟨⟨_, a0⟩, h.hT.frozenAt k⟩
/-- a column is finished -/
theorem ColSt.done {w wr : World} {X Y p g : Nat} {M : C3} {tab cols : List Value} (h : ColSt w wr X Y p (Y + 1) g M tab cols) (hp : p ≤ X) :
    TabSt w (wr.setCell ⟨w.heap.size + 1, p, none⟩ (.slice (some ⟨g, 0, none⟩) (Y + 1) (Y + 1))) X Y (p + 1) M (tab.set p (.slice (some ⟨g, 0, none⟩) (Y + 1) (Y + 1))) := by
  have hl := h.lt
  have hgl := h.gl
  have hlen : tab.length = (X + 1) * 1 := h.hT.1
  have a0 := h.hT.cellAt p (by omega)
  rw [List.getElem?_eq_getElem (by omega)] at a0
  have st := h.hT.stored p (.slice (some ⟨g, 0, none⟩) (Y + 1) (Y + 1))
  have sz : (wr.setCell ⟨w.heap.size + 1, p, none⟩ (.slice (some ⟨g, 0, none⟩) (Y + 1) (Y + 1))).heap.size = wr.heap.size := by simp
  refine ⟨(World.cell?_setCell_other _ _ _ _ (by intro e; injection e with e1; omega)).trans h.b0, (World.cell?_setCell_other _ _ _ _ (by intro e; injection e with e1; omega)).trans h.b1,
    st.1, by rw [sz]; exact (h.tb.mono (Nat.le_of_lt hl)).put a0 (by omega) hgl hl h.cl, h.dn.row, bset (show w.heap.size ≤ w.heap.size + 1 by omega) _ h.bl⟩

end Go.Proofs.Ytobncknlipeinaa
