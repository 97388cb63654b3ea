/-
  Words: a map keyed by parts that holds numbers.
-/
import Derived.Test.YtfbmnaepobhnkaaPartO
import Derived.Maps.OwnOps
import Derived.Maps.OwnSet
import Derived.Maps.Views
import Derived.DeepKeys4
namespace Go.Proofs.Ytfbmnaepobhnkaa
open Go.RowKit Go.Maps
set_option linter.unusedVariables false

def litQ (x y a b : Nat) : Lit := .string (keyBytes [.int .i64 x, .int .i64 y, .int .i64 a, .int .i64 b])
theorem qLaidOut : laidOutB Try.prog = true := by kernel_rfl
theorem qWide : (match Try.prog.underlying 70 with | some (.array _ _) | some (.struct _) => true | _ => false) = true := by kernel_rfl
theorem qLaw : Keyed Try.prog 70 := Keyed.of_law (deep_law_laid qLaidOut (m := 3) (by omega) (of_decide_eq_true (by kernel_rfl)) (by kernel_rfl) qWide)
theorem qKeyType : Try.prog.keyType 70 = true := by kernel_rfl
theorem qCells : Try.prog.cellsOf 70 = 4 := by kernel_rfl
theorem qBarCells : Try.prog.cellsOf 26 = 2 := by kernel_rfl
theorem qKey (x y a b : Nat) (hx : x ≤ 1000000) (hy : y ≤ 1000000) (ha : a ≤ 1000000) (hb : b ≤ 1000000) : keyOf Try.prog 70 (part4 x y a b) = some (litQ x y a b) := by
  have w1 : (Lit.int .i64 (x : Int)).wf = true := WalkArith.wf_i64 (by omega)
  have w2 : (Lit.int .i64 (y : Int)).wf = true := WalkArith.wf_i64 (by omega)
  have w3 : (Lit.int .i64 (a : Int)).wf = true := WalkArith.wf_i64 (by omega)
  have w4 : (Lit.int .i64 (b : Int)).wf = true := WalkArith.wf_i64 (by omega)
  obtain ⟨m, hm⟩ : ∃ m, Try.prog.types.size + 1 = m + 3 := ⟨Try.prog.types.size - 2, by have : 3 ≤ Try.prog.types.size := of_decide_eq_true (by kernel_rfl); omega⟩
  have hi := Try.underlying3
  have ci : Try.prog.cellsOf 3 = 1 := by kernel_rfl
  unfold keyOf
  rw [Try.underlying70]
  simp only [qKeyType, Value.formed, Try.underlying70, qCells, hm]
  simp [Program.keyLits, Try.underlying70, Try.underlying26, qCells, qBarCells, hi, ci, w1, w2, w3, w4, Value.cells, litQ]
  rw [if_pos (by intro i hi2; rcases (show i = 0 ∨ i = 1 by omega) with rfl | rfl <;> simp)]
  rfl
theorem litQ_inj {x y a b x' y' a' b' : Nat} (h : litQ x y a b = litQ x' y' a' b') (h1 : x ≤ 1000000 ∧ y ≤ 1000000 ∧ a ≤ 1000000 ∧ b ≤ 1000000) (h2 : x' ≤ 1000000 ∧ y' ≤ 1000000 ∧ a' ≤ 1000000 ∧ b' ≤ 1000000) : x = x' ∧ y = y' ∧ a = a' ∧ b = b' := by
  have e := qLaw.inj (qKey x y a b h1.1 h1.2.1 h1.2.2.1 h1.2.2.2) (by rw [h]; exact qKey x' y' a' b' h2.1 h2.2.1 h2.2.2.1 h2.2.2.2)
  simp at e
  omega
theorem litQ_key (x y a b : Nat) : WideAt.IsKeyLit (litQ x y a b) := by trivial

/-- block b is a map from parts to numbers, of at most n entries, that holds M -/
def MapQ (w : World) (b n : Nat) (M : Nat → Nat → Nat → Nat → Int) : Prop := ∃ (D : DataW Unit), w.ownsMap Try.prog 70 (plainElem Try.prog 3) b n D ∧ ∀ x y p q : Nat, x ≤ 100 → y ≤ 100 → p ≤ 100 → q ≤ 100 → D.atKey (litQ x y p q) (.lit (.int .i64 0)) = .lit (.int .i64 (M x y p q))
theorem zeroIntQ (w : World) : (zeroValue 3).run Try.prog w = .ok (.int .i64 0) w := by kernel_rfl
theorem MapQ.look {w : World} {b n : Nat} {M : Nat → Nat → Nat → Nat → Int} (h : MapQ w b n M) {x y p q : Nat} (hx : x ≤ 100) (hy : y ≤ 100) (hp : p ≤ 100) (hq : q ≤ 100) : (Instr.lookup 76 (.map (some b)) (part4 x y p q) false).run Try.prog w = .ok (.int .i64 (M x y p q)) w := by
  obtain ⟨D, hown, hM⟩ := h
  obtain ⟨c, hrun, hat, _⟩ := hown.lookup_int qLaw Try.underlying76 Try.underlying3 (zeroIntQ w) (qKey x y p q (by omega) (by omega) (by omega) (by omega))
  rw [hM x y p q hx hy hp hq] at hat
  simp only [DataW.lit.injEq, Lit.int.injEq, true_and] at hat
  rw [hrun, hat]
theorem MapQ.below {w w' : World} {b n B : Nat} {M : Nat → Nat → Nat → Nat → Int} (h : MapQ w b n M) (hb : Below B w w') (hB : b < B) : MapQ w' b n M := by
  obtain ⟨D, hown, hM⟩ := h
  obtain ⟨es, clock, h1, h2⟩ := hown
  exact ⟨D, ⟨es, clock, (hb.block b hB).trans h1, h2⟩, hM⟩
theorem MapQ.lt {w : World} {b n : Nat} {M : Nat → Nat → Nat → Nat → Int} (h : MapQ w b n M) : b < w.heap.size := by
  obtain ⟨D, ⟨es, clock, h1, h2⟩, hM⟩ := h
  exact (Array.getElem?_eq_some_iff.1 h1).1
theorem MapQ.alloc {w : World} {b n : Nat} {M : Nat → Nat → Nat → Nat → Int} (h : MapQ w b n M) (o : Obj) : MapQ (w.alloc o) b n M :=
  h.below ((Below.refl w.heap.size w).alloc (Nat.le_refl _) o) h.lt
theorem MapQ.drew {w : World} {b n : Nat} {M : Nat → Nat → Nat → Nat → Int} (h : MapQ w b n M) : MapQ w.drew b n M := h
theorem MapQ.made (w : World) (M : Nat → Nat → Nat → Nat → Int) (hM : ∀ x y p q, M x y p q = 0) : MapQ (w.alloc (.map #[] 0)) w.heap.size 0 M :=
  ⟨.map [], World.ownsMap_made _ _ _ _, fun x y p q _ _ _ _ => by rw [hM]; rfl⟩
def updQ (M : Nat → Nat → Nat → Nat → Int) (x y p q : Nat) (v : Int) : Nat → Nat → Nat → Nat → Int := fun a b c d => if a = x ∧ b = y ∧ c = p ∧ d = q then v else M a b c d
theorem updQ_same (M : Nat → Nat → Nat → Nat → Int) (x y p q : Nat) (v : Int) : updQ M x y p q v x y p q = v := if_pos ⟨rfl, rfl, rfl, rfl⟩
theorem updQ_other {M : Nat → Nat → Nat → Nat → Int} {x y p q a b c d : Nat} {v : Int} (h : ¬ (a = x ∧ b = y ∧ c = p ∧ d = q)) : updQ M x y p q v a b c d = M a b c d := if_neg h
theorem MapQ.put {w : World} {b n : Nat} {M : Nat → Nat → Nat → Nat → Int} (h : MapQ w b n M) (hn : n ≤ 100000) {x y p q : Nat} (hx : x ≤ 100) (hy : y ≤ 100) (hp : p ≤ 100) (hq : q ≤ 100) (v : Int) (hv : (Lit.int .i64 v).wf = true) :
    ∃ w', (Instr.mapUpdate 76 (.map (some b)) (part4 x y p q) (.int .i64 v)).run Try.prog w = .ok () w' ∧ MapQ w' b (n + 1) (updQ M x y p q v) ∧ w.grownBy w' (some b) := by
  obtain ⟨D, hown, hM⟩ := h
  obtain ⟨w', hrun, hown', hg⟩ := hown.update qLaw Try.underlying76 (by simp only [maxLen]; omega) (qKey x y p q (by omega) (by omega) (by omega) (by omega)) (plainElem_int Try.underlying3 hv)
  refine ⟨w', hrun, ⟨_, hown', ?_⟩, hg⟩
  intro a c d e ha hc hd he
  by_cases k : a = x ∧ c = y ∧ d = p ∧ e = q
  · obtain ⟨rfl, rfl, rfl, rfl⟩ := k
    rw [atKey_put_same (hown.tidy qLaw).isMap (litQ_key _ _ _ _), updQ_same]
  · rw [atKey_put_other (fun r => k (litQ_inj r ⟨by omega, by omega, by omega, by omega⟩ ⟨by omega, by omega, by omega, by omega⟩)), hM a c d e ha hc hd he, updQ_other k]

end Go.Proofs.Ytfbmnaepobhnkaa
