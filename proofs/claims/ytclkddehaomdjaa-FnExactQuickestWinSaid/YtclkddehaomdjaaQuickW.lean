/-
  Words: how many bites there are until the poisoned square is left.
-/
import Derived.Test.YtclkddehaomdjaaGoodC
namespace Go.Proofs.Ytclkddehaomdjaa
open Go.RowKit
set_option linter.unusedVariables false

/-- a bite that counts: any if the chomp is lost, a good one if not -/
def swB (l : List Int) (p : Int × Int) : Bool := decide (gr l = 0) || gbB l p
def selM (l : List Int) : List (Int × Int) := (mvL l).filter (swB l)
theorem selM_lost {l : List Int} (h : gr l = 0) : selM l = mvL l := by
  unfold selM
  rw [List.filter_eq_self]
  intro p _
  simp [swB, h]
theorem selM_won {l : List Int} (h : gr l ≠ 0) : selM l = gbL l := by
  unfold selM gbL
  apply List.filter_congr
  intro p _
  simp [swB, h]
theorem selM_can {l : List Int} (hl : ChOK l) {p : Int × Int} (h : p ∈ selM l) : canC l p.1 p.2 = true := mvL_can hl (List.mem_filter.1 h).1
/-- the longest, the shortest -/
def foldQ (l : List Int) (vs : List Nat) : Nat := if gr l = 0 then vs.foldl max 0 else vs.foldl min 36
def qF : Nat → List Int → Nat
  | 0, _ => 0
  | s + 1, l => foldQ l ((selM l).map fun p => qF s (biteL l p.1 p.2) + 1)
theorem qF_more : ∀ (s : Nat) (l : List Int), ChOK l → l.sum ≤ s → ∀ t, s ≤ t → qF t l = qF s l
  | 0, l, hl, hs, t, _ => by have := (sumI_36 hl).1; omega
  | s + 1, l, hl, hs, t, ht => by
    obtain ⟨t, rfl⟩ : ∃ u, t = u + 1 := ⟨t - 1, by omega⟩
    unfold qF
    congr 1
    apply List.map_congr_left
    intro p hp
    have hc := selM_can hl hp
    have := biteL_sum hl hc
    rw [qF_more s _ (biteL_ok hl hc) (by omega) t (by omega)]
/-- how many bites there are -/
def qn (l : List Int) : Nat := qF 36 l
def qV (l : List Int) : List Nat := (selM l).map fun p => qn (biteL l p.1 p.2) + 1
theorem qn_step {l : List Int} (hl : ChOK l) : qn l = foldQ l (qV l) := by
  have h36 := (sumI_36 hl).2
  show qF 36 l = _
  rw [show qF 36 l = qF (36 + 1) l from (qF_more 36 l hl (by omega) 37 (by omega)).symm]
  rfl
theorem foldl_max_le {vs : List Nat} {B : Nat} : ∀ {a : Nat}, a ≤ B → (∀ v ∈ vs, v ≤ B) → vs.foldl max a ≤ B := by
  induction vs with
  | nil => intro a ha _; exact ha
  | cons v r ih =>
    intro a ha h
    have h1 := h v (by simp)
    exact ih (by omega) (fun u hu => h u (by simp [hu]))
theorem foldl_min_a {vs : List Nat} : ∀ {a : Nat}, vs.foldl min a ≤ a := by
  induction vs with
  | nil => intro a; exact Nat.le_refl _
  | cons v r ih => intro a; have := @ih (min a v); simp only [List.foldl_cons]; omega
theorem foldl_min_le {vs : List Nat} {v : Nat} (h : v ∈ vs) : ∀ {a : Nat}, vs.foldl min a ≤ v := by
  induction vs with
  | nil => simp at h
  | cons u r ih =>
    intro a
    simp only [List.foldl_cons]
    rcases List.mem_cons.1 h with e | e
    · subst e; have := @foldl_min_a r (min a v); omega
    · exact ih e
theorem won_good {l : List Int} (hl : ChOK l) (h : gr l ≠ 0) : ∃ p, p ∈ gbL l := by
  have h0 : (0 : Int) ∈ grL l := by
    apply Classical.byContradiction
    intro q
    exact h (gr_is hl (m := 0) ⟨q, fun j hj => absurd hj (by omega)⟩)
  simp only [grL, List.mem_map] at h0
  obtain ⟨p, hp, e⟩ := h0
  exact ⟨p, List.mem_filter.2 ⟨hp, by simp [gbB, grI]; omega⟩⟩
theorem qn_le : ∀ (s : Nat) (l : List Int), ChOK l → l.sum ≤ s → (qn l : Int) ≤ l.sum - 1
  | 0, l, hl, hs => by have := (sumI_36 hl).1; omega
  | s + 1, l, hl, hs => by
    have h1 := (sumI_36 hl).1
    have hv : ∀ v ∈ qV l, (v : Int) ≤ l.sum - 1 := by
      intro v hv
      simp only [qV, List.mem_map] at hv
      obtain ⟨p, hp, rfl⟩ := hv
      have hc := selM_can hl hp
      have h2 := biteL_sum hl hc
      have h3 := qn_le s _ (biteL_ok hl hc) (by omega)
      omega
    rw [qn_step hl]
    unfold foldQ
    by_cases h : gr l = 0
    · rw [if_pos h]
      have := foldl_max_le (vs := qV l) (B := (l.sum - 1).toNat) (a := 0) (Nat.zero_le _) (fun v hvv => by have := hv v hvv; omega)
      omega
    · rw [if_neg h]
      obtain ⟨p, hp⟩ := won_good hl h
      rw [← selM_won h] at hp
      have hm : qn (biteL l p.1 p.2) + 1 ∈ qV l := List.mem_map.2 ⟨p, hp, rfl⟩
      have := foldl_min_le hm (a := 36)
      have := hv _ hm
      omega
theorem qn_36 {l : List Int} (hl : ChOK l) : qn l ≤ 35 := by
  have := qn_le 36 l hl (sumI_36 hl).2
  have := (sumI_36 hl).2
  omega
theorem qn_bite {l : List Int} (hl : ChOK l) {x y : Int} (hc : canC l x y = true) : qn (biteL l x y) + 1 ≤ 35 := by
  have h1 := qn_le 36 _ (biteL_ok hl hc) (sumI_36 (biteL_ok hl hc)).2
  have h2 := biteL_sum hl hc
  have := (sumI_36 hl).2
  omega
/-- as a number -/
def qI (l : List Int) : Int := (qn l : Nat)
theorem fold_snoc_max (vs : List Nat) (v a : Nat) : (vs ++ [v]).foldl max a = max (vs.foldl max a) v := by simp
theorem fold_snoc_min (vs : List Nat) (v a : Nat) : (vs ++ [v]).foldl min a = min (vs.foldl min a) v := by simp

/-- what QuickestWin returns -/
def qwV (l : List Int) : Int := if winR l = true then qI l else 0
theorem winR_iff {l : List Int} (h : chB l = true) : winR l = !decide (gr l = 0) := by
  simp only [winR, h, Bool.true_and, grI]
  by_cases e : gr l = 0
  · simp [e]
  · simp [e]; omega

end Go.Proofs.Ytclkddehaomdjaa
