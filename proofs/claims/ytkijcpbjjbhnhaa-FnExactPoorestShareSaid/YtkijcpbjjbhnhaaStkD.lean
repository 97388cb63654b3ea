/-
  Contracts: all stacks in order, of the program (addStacks, stacksOf). Conditions: none.
-/
import Derived.Test.YtkijcpbjjbhnhaaStkL
import Derived.Test.YtkijcpbjjbhnhaaSSW
import Derived.Maps.AppendAt
import Derived.ArgAppend
namespace Go.Proofs.Ytkijcpbjjbhnhaa
open Go.RowKit
set_option linter.unusedVariables false
set_option linter.unusedSimpArgs false

def rowL (L : List (List Int)) : Nat → List Int := fun i => L.getD i []
theorem rowL_snoc {L : List (List Int)} {n : Nat} (h : L.length = n) (s : List Int) (i : Nat) (hi : i < n + 1) : (if i = n then s else rowL L i) = rowL (L ++ [s]) i := by
  unfold rowL
  simp only [List.getD_eq_getElem?_getD]
  by_cases e : i = n
  · subst e; rw [if_pos rfl, ← h]; simp
  · rw [if_neg e, List.getElem?_append_left (by omega)]
theorem cntK_le : ∀ {f : Nat}, f ≤ 7 → cntK f ≤ 960800 := by
  intro f hf
  rcases (show f = 0 ∨ f = 1 ∨ f = 2 ∨ f = 3 ∨ f = 4 ∨ f = 5 ∨ f = 6 ∨ f = 7 by omega) with rfl | rfl | rfl | rfl | rfl | rfl | rfl | rfl <;> decide
theorem stkK_len {S : List Sb} (hS : S.length ≤ 7) (f : Nat) (s : List Int) : ∀ k, (stkK S f s k).length ≤ 1 + k * cntK f := by
  intro k
  induction k with
  | zero => simp [stkK_zero]
  | succ k ihk =>
    rw [stkK_succ, List.length_append, Nat.succ_mul]
    have := stkD_len S hS f (s ++ [(k : Int)])
    split
    · omega
    · simp; omega
theorem stk_fuel {S : List Sb} {s : List Int} {f : Nat} {k : Int} (h : S.length ≤ s.length + f) (hk : stk S (s ++ [k]) = true) : ∃ f', f = f' + 1 := by
  cases f with
  | zero => rw [stk_full (by omega)] at hk; cases hk
  | succ f => exact ⟨f, rfl⟩

theorem stkD_any {S : List Sb} {s : List Int} {f : Nat} (h : S.length ≤ s.length + f) : stkK S (f - 1) s S.length = stkD S f s := by
  cases f with
  | zero => rw [stkK_full (by omega)]; rfl
  | succ f => rfl
theorem own_holds {w : World} {B e n c : Nat} {A : Option Addr} {xs : List Value} (h : w.ownsRow B e 1 (.slice A n c) n xs) : ∀ b, A = some b → ∀ (j : Nat) (u : Value), xs[j]? = some u → w.cell? (b.add j) = some u := by
  intro b hb j u hu
  subst hb
  rcases h.2 with ⟨h', h0⟩ | ⟨g, cap, cur, h', _, _, _, _, _, _⟩
  · simp at h'
  · simp only [Value.slice.injEq, Option.some.injEq] at h'
    obtain ⟨rfl, _, rfl⟩ := h'
    have hj : j < n * 1 := by have := (List.getElem?_eq_some_iff.1 hu).1; have := h.1; omega
    rw [addr_add, Nat.zero_add, h.cellAt j hj, hu]
theorem own_cap {w : World} {B e z n c : Nat} {A : Option Addr} {xs : List Value} (h : w.ownsRow B e z (.slice A n c) n xs) (hn : 0 < n) : n ≤ c ∧ c ≤ maxLen := by
  rcases h.2 with ⟨h', h0⟩ | ⟨g, cap, cur, h', hb, hg, hnc, hcm, hcs, htake⟩
  · omega
  · simp only [Value.slice.injEq] at h'
    obtain ⟨rfl, _, rfl⟩ := h'
    exact ⟨hnc, hcm⟩

/-- what stands after so many slabs have been tried -/
structure AtK (w0 w : World) (L : List (List Int)) (s : List Int) (As : Option Addr) (cs : Nat) (r0 : Option Nat) (D : List (List Int)) (A' : Option Addr) (n' c' : Nat) (wr : World) : Prop where
  ss : OwnSS wr w0.heap.size (.slice A' n' c') n' (rowL (L ++ D))
  len : (L ++ D).length = n'
  own : wr.ownsRow w0.heap.size 3 1 (.slice As s.length cs) s.length (intCells s)
  gb : GB w wr r0 (.slice A' n' c')
  bel : Below w0.heap.size w0 wr
theorem AtK.below {w0 w : World} {L : List (List Int)} {s : List Int} {As : Option Addr} {cs : Nat} {r0 : Option Nat} {D : List (List Int)} {A' : Option Addr} {n' c' : Nat} {wr wx : World} (h : AtK w0 w L s As cs r0 D A' n' c' wr) (hb : Below wr.heap.size wr wx) : AtK w0 w L s As cs r0 D A' n' c' wx :=
  ⟨h.ss.later hb (Nat.le_refl _), h.len, own_later h.own hb (Nat.le_refl _), h.gb.below hb, h.bel.trans (hb.mono h.bel.size)⟩
theorem AtK.more {w0 w : World} {L : List (List Int)} {s : List Int} {As : Option Addr} {cs : Nat} {r0 : Option Nat} {D E : List (List Int)} {A' A2 : Option Addr} {n' c' n2 c2 : Nat} {wr wx : World} (h : AtK w0 w L s As cs r0 D A' n' c' wr)
    (h1 : ((L ++ D) ++ E).length = n2) (h2 : OwnSS wx w0.heap.size (.slice A2 n2 c2) n2 (rowL ((L ++ D) ++ E))) (h3 : GB wr wx (Value.slice A' n' c').ownBlock (.slice A2 n2 c2)) (h4 : Below w0.heap.size w0 wx) : AtK w0 w L s As cs r0 (D ++ E) A2 n2 c2 wx := by
  obtain ⟨A, C, ho⟩ := h.ss
  exact ⟨by rw [← List.append_assoc]; exact h2, by rw [← List.append_assoc]; exact h1, h3.keeps h.own (own_types h.own ho.top (fun q => tt_ne q.symm)), h.gb.trans h3, h4⟩



end Go.Proofs.Ytkijcpbjjbhnhaa
