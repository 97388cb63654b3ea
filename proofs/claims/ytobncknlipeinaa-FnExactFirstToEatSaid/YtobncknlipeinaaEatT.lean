/-
  Words: the model's table of least costs: rows of numbers, columns of rows, the table of columns; the mathematics of filling it.
-/
import Derived.Test.YtobncknlipeinaaEatS
import Derived.Test.YtobncknlipeinaaMapE
namespace Go.Proofs.Ytobncknlipeinaa
open Go.RowKit Go.Maps
set_option linter.unusedVariables false

theorem IsMin.less {S T : Int → Prop} {v u : Int} (h : IsMin S v) (k : IsMin T u) (hu : 0 ≤ u) : IsMin (fun x => S x ∨ T x) (lessI v u) := by
  rcases k with ⟨k1, k2⟩ | ⟨k1, k2, k3⟩
  · omega
  unfold lessI
  rcases h with ⟨h1, h2⟩ | ⟨h1, h2, h3⟩
  · rw [if_pos (by omega)]
    exact .inr ⟨hu, .inr k2, fun x hx => by rcases hx with hx | hx; exact absurd hx (h2 x); exact k3 x hx⟩
  · by_cases hl : u < v
    · rw [if_pos (.inr hl)]
      exact .inr ⟨hu, .inr k2, fun x hx => by rcases hx with hx | hx; have := h3 x hx; omega; exact k3 x hx⟩
    · rw [if_neg (by omega)]
      exact .inr ⟨h1, .inl h2, fun x hx => by rcases hx with hx | hx; exact h3 x hx; have := k3 x hx; omega⟩
theorem IsMin.plus {S : Int → Prop} {u c : Int} (h : IsMin S u) (hu : 0 ≤ u) (hc : 0 ≤ c) : IsMin (fun x => ∃ y, S y ∧ x = y + c) (u + c) := by
  rcases h with ⟨h1, h2⟩ | ⟨h1, h2, h3⟩
  · omega
  · exact .inr ⟨by omega, ⟨u, h2, rfl⟩, fun x hx => by obtain ⟨y, h, e⟩ := hx; have := h3 y h; omega⟩
def rowL (f : Nat → Int) (n : Nat) : List Int := (List.range (n + 1)).map f
theorem rowL_len (f : Nat → Int) (n : Nat) : (rowL f n).length = n + 1 := by simp [rowL]
theorem rowL_at {f : Nat → Int} {n k : Nat} (h : k ≤ n) : (rowL f n).getD k 0 = f k := by
  unfold rowL
  rw [List.getD_eq_getElem?_getD, List.getElem?_map, List.getElem?_range (by omega)]
  rfl
theorem sumS_row {f g : Nat → Int} {n m s : Nat} {x : Int} : SumS (rowL f n) (rowL g m) s x ↔ ∃ k, k ≤ n ∧ k ≤ s ∧ s - k ≤ m ∧ x = f k + g (s - k) := by
  unfold SumS
  rw [rowL_len, rowL_len]
  constructor
  · rintro ⟨k, h1, h2, h3, e⟩
    exact ⟨k, by omega, h2, by omega, by rw [e, rowL_at (by omega), rowL_at (by omega)]⟩
  · rintro ⟨k, h1, h2, h3, e⟩
    exact ⟨k, by omega, h2, by omega, by rw [rowL_at h1, rowL_at h3, e]⟩
theorem candD_sum {M : E3} {a b s t : Nat} {x : Int} : CandD M a b s t x ↔ ∃ y, SumS (rowL (M t b) (t * b)) (rowL (M (a - t) b) ((a - t) * b)) s y ∧ x = y + ((b * b : Nat) : Int) := by
  constructor
  · rintro ⟨k, h1, h2, h3, e⟩
    exact ⟨_, sumS_row.2 ⟨k, h1, h2, h3, rfl⟩, by omega⟩
  · rintro ⟨y, h, e⟩
    obtain ⟨k, h1, h2, h3, e2⟩ := sumS_row.1 h
    exact ⟨k, h1, h2, h3, by omega⟩
theorem candA_sum {M : E3} {a b s t : Nat} {x : Int} : CandA M a b s t x ↔ ∃ y, SumS (rowL (M a t) (a * t)) (rowL (M a (b - t)) (a * (b - t))) s y ∧ x = y + ((a * a : Nat) : Int) := by
  constructor
  · rintro ⟨k, h1, h2, h3, e⟩
    exact ⟨_, sumS_row.2 ⟨k, h1, h2, h3, rfl⟩, by omega⟩
  · rintro ⟨y, h, e⟩
    obtain ⟨k, h1, h2, h3, e2⟩ := sumS_row.1 h
    exact ⟨k, h1, h2, h3, by omega⟩

/-- block r holds f 0 to f n -/
def RowC (w : World) (r n : Nat) (f : Nat → Int) : Prop := ∀ k, k ≤ n → w.cell? ⟨r, k, none⟩ = some (.int .i64 (f k))
theorem RowC.lt {w : World} {r n : Nat} {f : Nat → Int} (h : RowC w r n f) : r < w.heap.size := World.block_lt_of_cell? w _ (h 0 (by omega))
theorem RowC.rd {w : World} {r n : Nat} {f : Nat → Int} (h : RowC w r n f) : Rd w 1 (some ⟨r, 0, none⟩) (n + 1) (intCells (rowL f n)) := by
  refine ⟨by simp [intCells, rowL_len], fun _ => ⟨r, 0, rfl, h.lt, fun j u hu => ?_⟩⟩
  have hj : j < n + 1 := by
    have := (List.getElem?_eq_some_iff.1 hu).1
    simpa [intCells, rowL_len] using this
  simp only [intCells, rowL, List.map_map, List.getElem?_map, List.getElem?_range hj, Option.map_some] at hu
  rw [Nat.zero_add, h j (by omega)]
  exact hu
theorem RowC.below {w w' : World} {r n B : Nat} {f : Nat → Int} (h : RowC w r n f) (hb : Below B w w') (hr : r < B) : RowC w' r n f := fun k hk => (hb.cell (p := ⟨r, k, none⟩) hr).trans (h k hk)
theorem RowC.other {w : World} {r n g k : Nat} {f : Nat → Int} {v : Value} (h : RowC w r n f) (hn : g ≠ r) : RowC (w.setCell ⟨g, k, none⟩ v) r n f := fun j hj =>
  (World.cell?_setCell_other _ _ _ _ (by intro e; injection e with e1; omega)).trans (h j hj)
theorem RowC.set {w : World} {r n k : Nat} {f : Nat → Int} (h : RowC w r n f) (hk : k ≤ n) (v : Int) : RowC (w.setCell ⟨r, k, none⟩ (.int .i64 v)) r n (fun j => if j = k then v else f j) := fun j hj => by
  by_cases e : j = k
  · subst e
    simp only [if_pos]
    exact World.cell?_setCell_same _ _ _ (h j hj)
  · simp only [if_neg e]
    exact (World.cell?_setCell_other _ _ _ _ (by intro e'; injection e' with e1 e2; omega)).trans (h j hj)
theorem RowC.congr {w : World} {r n : Nat} {f g : Nat → Int} (h : RowC w r n f) (e : ∀ k, k ≤ n → f k = g k) : RowC w r n g := fun k hk => by rw [← e k hk]; exact h k hk
/-- block g holds the rows of the bars that are a wide and lower than q; the rows lie from lo to top -/
def ColC (w : World) (g lo top q a : Nat) (M : C3) : Prop := ∀ b, 1 ≤ b → b < q → ∃ r, lo ≤ r ∧ r < top ∧ w.cell? ⟨g, b, none⟩ = some (.slice (some ⟨r, 0, none⟩) (a * b + 1) (a * b + 1)) ∧ RowC w r (a * b) (M a b)
theorem ColC.below {w w' : World} {g lo top q a B : Nat} {M : C3} (h : ColC w g lo top q a M) (hb : Below B w w') (h1 : g < B) (h2 : top ≤ B) : ColC w' g lo top q a M := fun b b1 b2 => by
  obtain ⟨r, r1, r2, c, d⟩ := h b b1 b2
  exact ⟨r, r1, r2, (hb.cell (p := ⟨g, b, none⟩) h1).trans c, d.below hb (by omega)⟩
theorem ColC.mono {w : World} {g lo top top' q a : Nat} {M : C3} (h : ColC w g lo top q a M) (ht : top ≤ top') : ColC w g lo top' q a M := fun b b1 b2 => by
  obtain ⟨r, r1, r2, c, d⟩ := h b b1 b2
  exact ⟨r, r1, by omega, c, d⟩
theorem ColC.other {w : World} {g lo top q a f k : Nat} {M : C3} {v : Value} (h : ColC w g lo top q a M) (h1 : f ≠ g) (h2 : top ≤ f ∨ f < lo) : ColC (w.setCell ⟨f, k, none⟩ v) g lo top q a M := fun b b1 b2 => by
  obtain ⟨r, r1, r2, c, d⟩ := h b b1 b2
  exact ⟨r, r1, r2, (World.cell?_setCell_other _ _ _ _ (by intro e; injection e with e1; omega)).trans c, d.other (by omega)⟩
theorem ColC.congr {w : World} {g lo top q a : Nat} {M N : C3} (h : ColC w g lo top q a M) (e : ∀ b k, 1 ≤ b → b < q → k ≤ a * b → M a b k = N a b k) : ColC w g lo top q a N := fun b b1 b2 => by
  obtain ⟨r, r1, r2, c, d⟩ := h b b1 b2
  exact ⟨r, r1, r2, c, d.congr fun k hk => e b k b1 b2 hk⟩
theorem ColC.put {w : World} {g lo top q a r : Nat} {M : C3} {old : Value} (h : ColC w g lo top q a M) (hold : w.cell? ⟨g, q, none⟩ = some old) (hg : g < lo) (r1 : lo ≤ r) (r2 : r < top) (hr : RowC w r (a * q) (M a q)) :
    ColC (w.setCell ⟨g, q, none⟩ (.slice (some ⟨r, 0, none⟩) (a * q + 1) (a * q + 1))) g lo top (q + 1) a M := fun b b1 b2 => by
  by_cases e : b = q
  · subst e
    exact ⟨r, r1, r2, World.cell?_setCell_same _ _ _ hold, hr.other (by omega)⟩
  · obtain ⟨r', r1', r2', c, d⟩ := h b b1 (by omega)
    exact ⟨r', r1', r2', (World.cell?_setCell_other _ _ _ _ (by intro e'; injection e' with e1 e2; omega)).trans c, d.other (by omega)⟩
/-- block gt holds the columns of all bars narrower than p -/
def TabT (w : World) (gt lo top Y p : Nat) (M : C3) : Prop := ∀ a, 1 ≤ a → a < p → ∃ g, lo ≤ g ∧ g < top ∧ w.cell? ⟨gt, a, none⟩ = some (.slice (some ⟨g, 0, none⟩) (Y + 1) (Y + 1)) ∧ ColC w g (g + 1) top (Y + 1) a M
theorem TabT.below {w w' : World} {gt lo top Y p B : Nat} {M : C3} (h : TabT w gt lo top Y p M) (hb : Below B w w') (h1 : gt < B) (h2 : top ≤ B) : TabT w' gt lo top Y p M := fun a a1 a2 => by
  obtain ⟨g, g1, g2, c, d⟩ := h a a1 a2
  exact ⟨g, g1, g2, (hb.cell (p := ⟨gt, a, none⟩) h1).trans c, d.below hb (by omega) h2⟩
theorem TabT.mono {w : World} {gt lo top top' Y p : Nat} {M : C3} (h : TabT w gt lo top Y p M) (ht : top ≤ top') : TabT w gt lo top' Y p M := fun a a1 a2 => by
  obtain ⟨g, g1, g2, c, d⟩ := h a a1 a2
  exact ⟨g, g1, by omega, c, d.mono ht⟩
theorem TabT.other {w : World} {gt lo top Y p f k : Nat} {M : C3} {v : Value} (h : TabT w gt lo top Y p M) (h1 : f ≠ gt) (h2 : top ≤ f) : TabT (w.setCell ⟨f, k, none⟩ v) gt lo top Y p M := fun a a1 a2 => by
  obtain ⟨g, g1, g2, c, d⟩ := h a a1 a2
  exact ⟨g, g1, g2, (World.cell?_setCell_other _ _ _ _ (by intro e; injection e with e1; omega)).trans c, d.other (by omega) (.inl h2)⟩
theorem TabT.congr {w : World} {gt lo top Y p : Nat} {M N : C3} (h : TabT w gt lo top Y p M) (e : ∀ a b k, 1 ≤ a → a < p → 1 ≤ b → b ≤ Y → k ≤ a * b → M a b k = N a b k) : TabT w gt lo top Y p N := fun a a1 a2 => by
  obtain ⟨g, g1, g2, c, d⟩ := h a a1 a2
  exact ⟨g, g1, g2, c, d.congr fun b k b1 b2 hk => e a b k a1 a2 b1 (by omega) hk⟩
theorem TabT.put {w : World} {gt lo top Y p g : Nat} {M : C3} {old : Value} (h : TabT w gt lo top Y p M) (hold : w.cell? ⟨gt, p, none⟩ = some old) (hg : gt < lo) (g1 : lo ≤ g) (g2 : g < top) (hc : ColC w g (g + 1) top (Y + 1) p M) :
    TabT (w.setCell ⟨gt, p, none⟩ (.slice (some ⟨g, 0, none⟩) (Y + 1) (Y + 1))) gt lo top Y (p + 1) M := fun a a1 a2 => by
  by_cases e : a = p
  · subst e
    exact ⟨g, g1, g2, World.cell?_setCell_same _ _ _ hold, hc.other (by omega) (.inr (by omega))⟩
  · obtain ⟨g', g1', g2', c, d⟩ := h a a1 (by omega)
    exact ⟨g', g1', g2', (World.cell?_setCell_other _ _ _ _ (by intro e'; injection e' with e1 e2; omega)).trans c, d.other (by omega) (.inr (by omega))⟩

/-- the model's costs of the bars before p, q -/
structure DoneM (M : C3) (Y p q : Nat) : Prop where
  all : ∀ a b, 1 ≤ a → 1 ≤ b → b ≤ Y → (a < p ∨ a = p ∧ b < q) → M a b 0 = 0 ∧ M a b (a * b) = 0 ∧ ∀ s, 0 < s → s < a * b → IsMin (CandM M a b s) (M a b s)
theorem DoneM.start (M : C3) (Y : Nat) : DoneM M Y 1 1 := ⟨fun a b h1 h2 h3 h4 => by omega⟩
theorem DoneM.row {M : C3} {Y p : Nat} (h : DoneM M Y p (Y + 1)) : DoneM M Y (p + 1) 1 := ⟨fun a b h1 h2 h3 h4 => h.all a b h1 h2 h3 (by omega)⟩
theorem DoneM.put {M : C3} {Y p q : Nat} {f : Nat → Int} (h : DoneM M Y p q) (f0 : f 0 = 0) (f1 : f (p * q) = 0) (f2 : ∀ s, 0 < s → s < p * q → IsMin (CandM M p q s) (f s)) : DoneM (updE M p q f) Y p (q + 1) := by
  have hc : ∀ a b s x, (a < p ∨ a = p ∧ b ≤ q) → (CandM (updE M p q f) a b s x ↔ CandM M a b s x) := fun a b s x h3 =>
    cand_congr (fun a' k _ h5 _ => by rw [updE_other (by omega)]) (fun b' k _ h5 _ => by rw [updE_other (by omega)]) x
  refine ⟨fun a b h1 h2 h3 h4 => ?_⟩
  by_cases e : a = p ∧ b = q
  · obtain ⟨rfl, rfl⟩ := e
    rw [updE_same]
    exact ⟨f0, f1, fun s s1 s2 => (f2 s s1 s2).congr fun x => (hc a b s x (by omega)).symm⟩
  · rw [updE_other e]
    obtain ⟨z0, z1, z2⟩ := h.all a b h1 h2 h3 (by omega)
    exact ⟨z0, z1, fun s s1 s2 => (z2 s s1 s2).congr fun x => (hc a b s x (by omega)).symm⟩
theorem DoneM.solves {M : C3} {X Y : Nat} (h : DoneM M Y (X + 1) 1) : RecM M X Y :=
  ⟨fun a b h1 h2 h3 h4 => ⟨(h.all a b h1 h3 h4 (by omega)).1, (h.all a b h1 h3 h4 (by omega)).2.1⟩, fun a b s h1 h2 h3 h4 h5 h6 => (h.all a b h1 h3 h4 (by omega)).2.2 s h5 h6⟩
theorem DoneM.le {M : C3} {Y p q : Nat} (h : DoneM M Y p q) (hp : p ≤ 12) (hY : Y ≤ 12) (hq : q ≤ Y + 1) {a b s : Nat} (h1 : 1 ≤ a) (h2 : 1 ≤ b) (h3 : b ≤ Y) (h4 : a < p ∨ a = p ∧ b < q) (hs : s ≤ a * b) : 0 ≤ M a b s ∧ M a b s ≤ 100000 := by
  have hab : a * b ≤ 144 := Nat.le_trans (Nat.mul_le_mul (show a ≤ 12 by omega) (show b ≤ 12 by omega)) (by omega)
  by_cases e : a < p
  · have hr : RecM M (p - 1) Y := ⟨fun a b h1 h2 h3 h4 => ⟨(h.all a b h1 h3 h4 (by omega)).1, (h.all a b h1 h3 h4 (by omega)).2.1⟩, fun a b s h1 h2 h3 h4 h5 h6 => (h.all a b h1 h3 h4 (by omega)).2.2 s h5 h6⟩
    have := eat_le hr (by omega) hY (a + b) a b s (Nat.le_refl _) h1 (by omega) h2 h3 hs
    omega
  · have hr : RecM M p (q - 1) := ⟨fun a b h1 h2 h3 h4 => ⟨(h.all a b h1 h3 (by omega) (by omega)).1, (h.all a b h1 h3 (by omega) (by omega)).2.1⟩, fun a b s h1 h2 h3 h4 h5 h6 => (h.all a b h1 h3 (by omega) (by omega)).2.2 s h5 h6⟩
    have := eat_le hr hp (by omega) (a + b) a b s (Nat.le_refl _) h1 (by omega) h2 (by omega) hs
    omega

end Go.Proofs.Ytobncknlipeinaa
