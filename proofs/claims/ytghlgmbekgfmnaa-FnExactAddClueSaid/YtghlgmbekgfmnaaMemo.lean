/-
  Words: a map keyed by chomps that remembers numbers.
-/
import Derived.Test.YtghlgmbekgfmnaaGr
import Derived.Maps.OwnOps
import Derived.Maps.OwnSet
import Derived.Maps.Views
import Derived.DeepKeys4
namespace Go.Proofs.Ytghlgmbekgfmnaa
open Go.RowKit Go.Maps
set_option linter.unusedVariables false

/-- a chomp's rows as a function -/
abbrev fl (l : List Int) : Nat → Int := fun j => l.getD j 0
def litC (l : List Int) : Lit := .string (keyBytes [.int .i64 (l.getD 0 0), .int .i64 (l.getD 1 0), .int .i64 (l.getD 2 0), .int .i64 (l.getD 3 0), .int .i64 (l.getD 4 0), .int .i64 (l.getD 5 0)])
theorem chLaidOut : laidOutB Try.prog = true := by kernel_rfl
theorem chWide : (match Try.prog.underlying 73 with | some (.array _ _) | some (.struct _) => true | _ => false) = true := by kernel_rfl
set_option maxRecDepth 100000 in
theorem chLaw : Keyed Try.prog 73 := Keyed.of_law (deep_law_laid chLaidOut (m := 2) (by omega) (of_decide_eq_true (by kernel_rfl)) (by kernel_rfl) chWide)
theorem chKeyType : Try.prog.keyType 73 = true := by kernel_rfl
theorem chCellsOf : Try.prog.cellsOf 73 = 6 := by kernel_rfl
theorem chKey6 (a0 a1 a2 a3 a4 a5 : Int) (w0 : (Lit.int .i64 a0).wf = true) (w1 : (Lit.int .i64 a1).wf = true) (w2 : (Lit.int .i64 a2).wf = true) (w3 : (Lit.int .i64 a3).wf = true) (w4 : (Lit.int .i64 a4).wf = true) (w5 : (Lit.int .i64 a5).wf = true) :
    keyOf Try.prog 73 (.agg #[.int .i64 a0, .int .i64 a1, .int .i64 a2, .int .i64 a3, .int .i64 a4, .int .i64 a5]) = some (.string (keyBytes [.int .i64 a0, .int .i64 a1, .int .i64 a2, .int .i64 a3, .int .i64 a4, .int .i64 a5])) := by
  obtain ⟨m, hm⟩ : ∃ m, Try.prog.types.size + 1 = m + 2 := ⟨Try.prog.types.size - 1, by have : 2 ≤ Try.prog.types.size := of_decide_eq_true (by kernel_rfl); omega⟩
  have hi := Try.underlying3
  have ci : Try.prog.cellsOf 3 = 1 := by kernel_rfl
  unfold keyOf
  rw [Try.underlying73]
  simp only [chKeyType, Value.formed, Try.underlying73, chCellsOf, hm]
  simp [Program.keyLits, Try.underlying73, chCellsOf, hi, ci, w0, w1, w2, w3, w4, w5, Value.cells, List.range, List.range.loop]
theorem chKey {f : Nat → Int} {l : List Int} (hl : ChOK l) (hf : ∀ j, j < 6 → f j = l.getD j 0) : keyOf Try.prog 73 (arrF f) = some (litC l) := by
  have hw : ∀ j, (Lit.int .i64 (l.getD j 0)).wf = true := fun j => WalkArith.wf_i64 (by have := hl.ge0 j; have := hl.le6 j; omega)
  rw [arrF_congr (g := fun j => l.getD j 0) hf]
  exact chKey6 _ _ _ _ _ _ (hw 0) (hw 1) (hw 2) (hw 3) (hw 4) (hw 5)
theorem litC_inj {a b : List Int} (ha : ChOK a) (hb : ChOK b) (h : litC a = litC b) : a = b := by
  have e := chLaw.inj (chKey (f := fl a) ha (fun _ _ => rfl)) (by rw [h]; exact chKey (f := fl b) hb (fun _ _ => rfl))
  simp only [arrF, Value.agg.injEq, Array.mk.injEq, List.cons.injEq, Value.int.injEq, true_and, and_true, fl] at e
  obtain ⟨e0, e1, e2, e3, e4, e5⟩ := e
  have k : ∀ j, j < 6 → fl a j = fl b j := fun j hj => by
    rcases (show j = 0 ∨ j = 1 ∨ j = 2 ∨ j = 3 ∨ j = 4 ∨ j = 5 by omega) with rfl | rfl | rfl | rfl | rfl | rfl <;> assumption
  rw [← ha.rows ha.2.1, ← hb.rows hb.2.1]
  exact rowsK_congr k
theorem litC_key (l : List Int) : WideAt.IsKeyLit (litC l) := by trivial

/-- block b is a map that has the numbers g of the chomps S -/
def MapC (w : World) (b : Nat) (g : List Int → Int) (S : List (List Int)) : Prop := ∃ D : DataW Unit, w.ownsMap Try.prog 73 (plainElem Try.prog 3) b S.length D ∧ S.Nodup ∧ (∀ l ∈ S, ChOK l) ∧ (∀ l, ChOK l → (Maps.has D (litC l) = true ↔ l ∈ S)) ∧ ∀ l ∈ S, D.atKey (litC l) (.lit (.int .i64 0)) = .lit (.int .i64 (g l))
theorem zeroIntC (w : World) : (zeroValue 3).run Try.prog w = .ok (.int .i64 0) w := by kernel_rfl
theorem MapC.made (w : World) (g : List Int → Int) : MapC (w.alloc (.map #[] 0)) w.heap.size g [] :=
  ⟨.map [], World.ownsMap_made _ _ _ _, List.nodup_nil, by simp, fun l _ => by simp [Maps.has], by simp⟩
theorem MapC.lt {w : World} {b : Nat} {g : List Int → Int} {S : List (List Int)} (h : MapC w b g S) : b < w.heap.size := by
  obtain ⟨D, ⟨es, clock, h1, h2⟩, _⟩ := h
  exact (Array.getElem?_eq_some_iff.1 h1).1
theorem MapC.same {w w' : World} {b : Nat} {g : List Int → Int} {S : List (List Int)} (h : MapC w b g S) (hb : w'.heap[b]? = w.heap[b]?) : MapC w' b g S := by
  obtain ⟨D, ⟨es, clock, h1, h2⟩, h3⟩ := h
  exact ⟨D, ⟨es, clock, hb.trans h1, h2⟩, h3⟩
theorem MapC.small {w : World} {b : Nat} {g : List Int → Int} {S : List (List Int)} (h : MapC w b g S) : S.length ≤ 923 := by
  obtain ⟨D, _, h2, h3, _⟩ := h
  have := nodup_len h2 (T := chs 6 6 []) (fun l hl => (mem_all (by omega) (by omega)).2 ⟨h3 l hl, (h3 l hl).2.1, (h3 l hl).le6 0⟩)
  rwa [length_chs, cntC_6] at this
/-- 'number, ok := known[c]' -/
theorem MapC.look {w : World} {b : Nat} {g : List Int → Int} {S : List (List Int)} (h : MapC w b g S) {f : Nat → Int} {l : List Int} (hl : ChOK l) (hf : ∀ j, j < 6 → f j = l.getD j 0) :
    ∃ c, (Instr.lookup 123 (.map (some b)) (arrF f) true).run Try.prog w = .ok (.tuple #[.int .i64 c, .bool (decide (l ∈ S))]) w ∧ (l ∈ S → c = g l) := by
  obtain ⟨D, h1, h2, h3, h4, h5⟩ := h
  obtain ⟨v, ps, hrun, hv⟩ := h1.look_ok chLaw Try.underlying123 (zeroIntC w) (plainElem_int Try.underlying3 (a := 0) (by decide)) (chKey hl hf)
  obtain ⟨c, rfl, hc, _⟩ := plainElem_int_inv Try.underlying3 hv
  refine ⟨c, ?_, fun hm => ?_⟩
  · rw [hrun]
    have e : Maps.has D (litC l) = decide (l ∈ S) := by
      rw [Bool.eq_iff_iff, h4 l hl]
      simp
    rw [e]
  · have := h5 l hm
    simp only [Prod.mk.injEq] at hc
    rw [this] at hc
    have h6 := hc.1
    simp only [DataW.lit.injEq, Lit.int.injEq, true_and] at h6
    exact h6.symm
/-- 'known[c] = number' -/
theorem MapC.put {w : World} {b : Nat} {g : List Int → Int} {S : List (List Int)} (h : MapC w b g S) {f : Nat → Int} {l : List Int} (hl : ChOK l) (hf : ∀ j, j < 6 → f j = l.getD j 0) (hn : l ∉ S) (hv : (Lit.int .i64 (g l)).wf = true) :
    ∃ w', (Instr.mapUpdate 123 (.map (some b)) (arrF f) (.int .i64 (g l))).run Try.prog w = .ok () w' ∧ MapC w' b g (S ++ [l]) ∧ w.grownBy w' (some b) := by
  have hs := h.small
  obtain ⟨D, h1, h2, h3, h4, h5⟩ := h
  obtain ⟨w', hrun, hown', hg⟩ := h1.update chLaw Try.underlying123 (by simp only [maxLen]; omega) (chKey hl hf) (plainElem_int Try.underlying3 hv)
  refine ⟨w', hrun, ⟨_, by rw [List.length_append]; exact hown', ?_, ?_, ?_, ?_⟩, hg⟩
  · exact List.nodup_append.2 ⟨h2, by simp, fun a ha b hb e => by rw [List.mem_singleton] at hb; subst hb; subst e; exact hn ha⟩
  · intro a ha
    rcases List.mem_append.1 ha with ha | ha
    · exact h3 a ha
    · simp at ha; subst ha; exact hl
  · intro a ha
    by_cases e : a = l
    · subst e
      rw [has_put_same (h1.tidy chLaw).isMap (litC_key a)]
      simp
    · rw [has_put_other (fun q => e (litC_inj ha hl q)), h4 a ha]
      simp [e]
  · intro a ha
    by_cases e : a = l
    · subst e
      rw [atKey_put_same (h1.tidy chLaw).isMap (litC_key _)]
    · have haS : a ∈ S := by
        rcases List.mem_append.1 ha with q | q
        · exact q
        · simp at q; exact absurd q e
      rw [atKey_put_other (fun q => e (litC_inj (h3 a haS) hl q)), h5 a haS]

end Go.Proofs.Ytghlgmbekgfmnaa
