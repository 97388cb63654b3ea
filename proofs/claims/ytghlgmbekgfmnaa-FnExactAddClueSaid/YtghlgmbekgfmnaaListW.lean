/-
  Words: all chomps that fit into a bar, in order; growth of a row, step by step. Nothing of the program is named here.
-/
import Derived.Test.YtghlgmbekgfmnaaBiteW
import Derived.OwnWalk
import Derived.Maps.Range
import Derived.Maps.AppendAt
namespace Go.Proofs.Ytghlgmbekgfmnaa
open Go.RowKit
set_option linter.unusedVariables false

/-- all chomps that go on behind these rows by at most h more, none of more squares than w -/
def chs : Nat → Nat → List Int → List (List Int)
  | 0, _, _ => []
  | h + 1, w, b => (List.range w).flatMap fun (i : Nat) => (b ++ [((i : Int) + 1)]) :: chs h (i + 1) (b ++ [((i : Int) + 1)])
def chsK (h m : Nat) (b : List Int) : List (List Int) := (List.range m).flatMap fun (i : Nat) => (b ++ [((i : Int) + 1)]) :: chs h (i + 1) (b ++ [((i : Int) + 1)])
theorem chs_succ (h w : Nat) (b : List Int) : chs (h + 1) w b = chsK h w b := rfl
theorem chsK_zero (h : Nat) (b : List Int) : chsK h 0 b = [] := rfl
theorem chsK_succ (h m : Nat) (b : List Int) : chsK h (m + 1) b = chsK h m b ++ ((b ++ [((m : Int) + 1)]) :: chs h (m + 1) (b ++ [((m : Int) + 1)])) := by
  simp [chsK, List.range_succ]
theorem length_chsK_mono {h m n : Nat} (b : List Int) (hmn : m ≤ n) : (chsK h m b).length ≤ (chsK h n b).length := by
  induction n with
  | zero => have : m = 0 := by omega
            subst this; exact Nat.le_refl _
  | succ n ih =>
    by_cases e : m = n + 1
    · subst e; exact Nat.le_refl _
    · have := ih (by omega)
      rw [chsK_succ, List.length_append]
      omega
/-- how many -/
def cntC : Nat → Nat → Nat
  | 0, _ => 0
  | h + 1, w => ((List.range w).map fun i => 1 + cntC h (i + 1)).sum
theorem length_chs (h : Nat) : ∀ (w : Nat) (b : List Int), (chs h w b).length = cntC h w := by
  induction h with
  | zero => intro w b; rfl
  | succ h ih =>
    intro w b
    simp only [chs, cntC, List.length_flatMap]
    congr 1
    apply List.map_congr_left
    intro i _
    simp only [List.length_cons, ih]
    omega
theorem cntC_6 : cntC 6 6 = 923 := by decide +kernel
theorem cntC_mono_w {h : Nat} : ∀ {w v : Nat}, w ≤ v → cntC h w ≤ cntC h v := by
  cases h with
  | zero => intros; exact Nat.le_refl _
  | succ h =>
    intro w v hwv
    induction v with
    | zero => have : w = 0 := by omega
              subst this; exact Nat.le_refl _
    | succ v ih =>
      by_cases e : w = v + 1
      · subst e; exact Nat.le_refl _
      · have := ih (by omega)
        have e2 : cntC (h + 1) (v + 1) = cntC (h + 1) v + (1 + cntC h (v + 1)) := by simp [cntC, List.range_succ, List.sum_append]
        omega
theorem cntC_mono_h : ∀ {h w : Nat}, cntC h w ≤ cntC (h + 1) w := by
  intro h
  induction h with
  | zero => intro w; simp [cntC]
  | succ h ih =>
    intro w
    induction w with
    | zero => simp [cntC]
    | succ w ihw =>
      have e1 : cntC (h + 1) (w + 1) = cntC (h + 1) w + (1 + cntC h (w + 1)) := by simp [cntC, List.range_succ, List.sum_append]
      have e2 : cntC (h + 1 + 1) (w + 1) = cntC (h + 1 + 1) w + (1 + cntC (h + 1) (w + 1)) := by
        conv => lhs; unfold cntC
        conv => rhs; lhs; unfold cntC
        simp [List.range_succ, List.sum_append]
      have := ih (w := w + 1)
      omega
theorem cntC_le {h w : Nat} (hh : h ≤ 6) (hw : w ≤ 6) : cntC h w ≤ 923 := by
  rw [← cntC_6]
  refine Nat.le_trans (cntC_mono_w hw) ?_
  obtain ⟨d, rfl⟩ : ∃ d, d = 6 - h := ⟨_, rfl⟩
  have key : ∀ d k, k + d = 6 → cntC k 6 ≤ cntC 6 6 := by
    intro d
    induction d with
    | zero => intro k hk; have : k = 6 := by omega
              subst this; exact Nat.le_refl _
    | succ d ih => intro k hk; exact Nat.le_trans cntC_mono_h (ih (k + 1) (by omega))
  exact key (6 - h) h (by omega)

/-- a row has grown, in place or into a new block -/
structure GrowR (w : World) (v : Value) (w' : World) (v' : Value) : Prop where
  by_ : w.grownBy w' v.ownBlock
  at_ : v'.ownBlock = v.ownBlock ∨ ∃ g, v'.ownBlock = some g ∧ w.heap.size ≤ g
theorem GrowR.refl (w : World) (v : Value) : GrowR w v w v := ⟨World.grownBy.refl _ _, .inl rfl⟩
theorem GrowR.trans {a b c : World} {u v x : Value} (h : GrowR a u b v) (k : GrowR b v c x) : GrowR a u c x := by
  refine ⟨h.by_.andThen k.by_ fun j hj => ?_, ?_⟩
  · rcases h.at_ with e | ⟨g, e, hg⟩
    · exact .inr (by rw [← e, hj])
    · rw [hj] at e; cases e; exact .inl hg
  · rcases k.at_ with e | ⟨g, e, hg⟩
    · rcases h.at_ with e2 | ⟨g, e2, hg⟩
      · exact .inl (e.trans e2)
      · exact .inr ⟨g, e.trans e2, hg⟩
    · exact .inr ⟨g, e, Nat.le_trans h.by_.size hg⟩
theorem gb_set {w w' : World} {row : Option Nat} (h : w.grownBy w' row) (a : Addr) (v : Value) (ha : w.heap.size ≤ a.block) : w.grownBy (w'.setCell a v) row := by
  refine h.andThen (row' := some a.block) ⟨rfl, rfl, rfl, by simp, fun i hi hr => ?_⟩ (fun j hj => by cases hj; exact .inl ha)
  exact Below.heap_setCell _ _ _ _ (fun e => hr (by rw [e]))

theorem GrowR.set {w w' : World} {u v : Value} (h : GrowR w u w' v) (a : Addr) (x : Value) (ha : w.heap.size ≤ a.block) : GrowR w u (w'.setCell a x) v := ⟨gb_set h.by_ a x ha, h.at_⟩
theorem GrowR.alloc {w w' : World} {u v : Value} (h : GrowR w u w' v) (o : Obj) : GrowR w u (w'.alloc o) v := ⟨h.by_.andThen (World.grownBy_alloc w' o none) (fun j hj => by cases hj), h.at_⟩
theorem GrowR.of_at {w w' : World} {u v : Value} (h : w.grownBy w' u.ownBlock) (k : v.ownBlock = u.ownBlock ∨ v.ownBlock = some w.heap.size) : GrowR w u w' v :=
  ⟨h, k.elim .inl fun e => .inr ⟨_, e, Nat.le_refl _⟩⟩

end Go.Proofs.Ytghlgmbekgfmnaa
