/-
  Words: the parts of a bar in their order: each one comes behind all smaller ones.
-/
import Derived.Test.YtfbmnaepobhnkaaPartsW
namespace Go.Proofs.Ytfbmnaepobhnkaa
open Go.RowKit

def lexle (p q : Quad) : Prop := p.2.2.1 < q.2.2.1 ∨ (p.2.2.1 = q.2.2.1 ∧ p.2.2.2 ≤ q.2.2.2)
theorem rowParts_size {a b y : Nat} (k : Nat) : ∀ p ∈ rowParts a b y k, p.2.2.1 = a ∧ p.2.2.2 = b := by
  induction k with
  | zero => intro p hp; simp [rowParts] at hp
  | succ k ih =>
    intro p hp
    rcases List.mem_append.1 hp with h | h
    · exact ih p h
    · rw [List.mem_singleton.1 h]; exact ⟨rfl, rfl⟩
theorem sizeParts_size {a b c : Nat} (k : Nat) : ∀ p ∈ sizeParts a b c k, p.2.2.1 = a ∧ p.2.2.2 = b := by
  induction k with
  | zero => intro p hp; simp [sizeParts] at hp
  | succ k ih =>
    intro p hp
    rcases List.mem_append.1 hp with h | h
    · exact ih p h
    · exact rowParts_size _ p h
theorem wideParts_size {W H a : Nat} (k : Nat) : ∀ p ∈ wideParts W H a k, p.2.2.1 = a ∧ p.2.2.2 ≤ k := by
  induction k with
  | zero => intro p hp; simp [wideParts] at hp
  | succ k ih =>
    intro p hp
    rcases List.mem_append.1 hp with h | h
    · have := ih p h; exact ⟨this.1, by have := this.2; omega⟩
    · have := sizeParts_size _ p h; exact ⟨this.1, by have := this.2; omega⟩
theorem barParts_size {W H : Nat} (k : Nat) : ∀ p ∈ barParts W H k, p.2.2.1 ≤ k := by
  induction k with
  | zero => intro p hp; simp [barParts] at hp
  | succ k ih =>
    intro p hp
    rcases List.mem_append.1 hp with h | h
    · have := ih p h; omega
    · have := wideParts_size _ p h; omega
theorem pairwise_same {L : List Quad} {a b : Int} (h : ∀ p ∈ L, p.2.2.1 = a ∧ p.2.2.2 = b) : L.Pairwise lexle := by
  induction L with
  | nil => exact List.Pairwise.nil
  | cons q L ih =>
    refine List.Pairwise.cons (fun p hp => ?_) (ih fun p hp => h p (List.mem_cons_of_mem _ hp))
    have h1 := h q (List.mem_cons_self ..)
    have h2 := h p (List.mem_cons_of_mem _ hp)
    exact .inr ⟨by omega, by omega⟩
theorem wideParts_sorted {W H a : Nat} (k : Nat) : (wideParts W H a k).Pairwise lexle := by
  induction k with
  | zero => exact List.Pairwise.nil
  | succ k ih =>
    refine List.pairwise_append.2 ⟨ih, pairwise_same (sizeParts_size _), fun p hp q hq => ?_⟩
    have h1 := wideParts_size _ p hp
    have h2 := sizeParts_size _ q hq
    exact .inr ⟨by omega, by omega⟩
theorem barParts_sorted {W H : Nat} (k : Nat) : (barParts W H k).Pairwise lexle := by
  induction k with
  | zero => exact List.Pairwise.nil
  | succ k ih =>
    refine List.pairwise_append.2 ⟨ih, wideParts_sorted _, fun p hp q hq => ?_⟩
    have h1 := barParts_size _ p hp
    have h2 := wideParts_size _ q hq
    exact .inl (by omega)
theorem rowParts_mem {a b y x : Nat} : ∀ {k : Nat}, x < k → (((x : Int), (y : Int), (a : Int), (b : Int)) : Quad) ∈ rowParts a b y k
  | k + 1, h => by
    by_cases e : x = k
    · subst e; exact List.mem_append_right _ (List.mem_singleton.2 rfl)
    · exact List.mem_append_left _ (rowParts_mem (by omega))
theorem sizeParts_mem {a b c y x : Nat} (hx : x < c) : ∀ {k : Nat}, y < k → (((x : Int), (y : Int), (a : Int), (b : Int)) : Quad) ∈ sizeParts a b c k
  | k + 1, h => by
    by_cases e : y = k
    · subst e; exact List.mem_append_right _ (rowParts_mem hx)
    · exact List.mem_append_left _ (sizeParts_mem hx (by omega))
theorem wideParts_mem {W H a b y x : Nat} (hx : x + a ≤ W) (hb : 1 ≤ b) (hy : y + b ≤ H) : ∀ {k : Nat}, b ≤ k → (((x : Int), (y : Int), (a : Int), (b : Int)) : Quad) ∈ wideParts W H a k
  | 0, h => by omega
  | k + 1, h => by
    by_cases e : b = k + 1
    · subst e; exact List.mem_append_right _ (sizeParts_mem (by omega) (by omega))
    · exact List.mem_append_left _ (wideParts_mem hx hb hy (by omega))
theorem barParts_mem {W H a b y x : Nat} (ha : 1 ≤ a) (hx : x + a ≤ W) (hb : 1 ≤ b) (hy : y + b ≤ H) : ∀ {k : Nat}, a ≤ k → (((x : Int), (y : Int), (a : Int), (b : Int)) : Quad) ∈ barParts W H k
  | 0, h => by omega
  | k + 1, h => by
    by_cases e : a = k + 1
    · subst e; exact List.mem_append_right _ (wideParts_mem hx hb hy (by omega))
    · exact List.mem_append_left _ (barParts_mem ha hx hb hy (by omega))
/-- all smaller parts come before -/
theorem part_before {W H k x y a b x' y' a' b' : Nat} (hk : k < (barParts W H W).length) (e : (barParts W H W)[k] = ((x : Int), (y : Int), (a : Int), (b : Int)))
    (h1 : 1 ≤ a') (h2 : x' + a' ≤ W) (h3 : 1 ≤ b') (h4 : y' + b' ≤ H) (h : a' < a ∨ a' = a ∧ b' < b) : (((x' : Int), (y' : Int), (a' : Int), (b' : Int)) : Quad) ∈ (barParts W H W).take k := by
  have hm := barParts_mem h1 h2 h3 h4 (show a' ≤ W by omega)
  obtain ⟨j, hj, ej⟩ := List.getElem_of_mem hm
  by_cases hjk : j < k
  · rw [List.mem_take_iff_getElem]
    exact ⟨j, by omega, ej⟩
  · exfalso
    by_cases ejk : j = k
    · subst ejk
      rw [e] at ej
      simp only [Prod.mk.injEq] at ej
      omega
    · have hs := List.pairwise_iff_getElem.1 (barParts_sorted (W := W) (H := H) W) k j hk hj (by omega)
      rw [e, ej] at hs
      unfold lexle at hs
      simp only at hs
      omega
theorem part_in {W H k : Nat} (hk : k < (barParts W H W).length) : QIn W H (barParts W H W)[k] := barParts_in W (Nat.le_refl _) _ (List.getElem_mem hk)

end Go.Proofs.Ytfbmnaepobhnkaa
