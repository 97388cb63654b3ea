/-
  Words: some rows of a list of slices, taken into another list.
-/
import Derived.Test.YtghlgmbekgfmnaaHeapC
namespace Go.Proofs.Ytghlgmbekgfmnaa
open Go.RowKit
set_option linter.unusedVariables false

/-- the places, of the first k, where p holds -/
def selI {α : Type} (M : List α) (d : α) (p : α → Bool) (k : Nat) : List Nat := (List.range k).filter fun i => p (M.getD i d)
theorem selI_zero {α : Type} (M : List α) (d : α) (p : α → Bool) : selI M d p 0 = [] := rfl
theorem selI_yes {α : Type} {M : List α} {d : α} {p : α → Bool} {k : Nat} (h : p (M.getD k d) = true) : selI M d p (k + 1) = selI M d p k ++ [k] := by
  unfold selI
  rw [List.range_succ, List.filter_append]
  congr 1
  simp only [List.filter_cons, List.filter_nil, h, if_true]
theorem selI_no {α : Type} {M : List α} {d : α} {p : α → Bool} {k : Nat} (h : p (M.getD k d) = false) : selI M d p (k + 1) = selI M d p k := by
  unfold selI
  rw [List.range_succ, List.filter_append]
  simp only [List.filter_cons, List.filter_nil, h]
  simp
theorem selI_lt {α : Type} {M : List α} {d : α} {p : α → Bool} {k i : Nat} (h : i ∈ selI M d p k) : i < k := List.mem_range.1 (List.mem_filter.1 h).1
theorem selI_nodup {α : Type} (M : List α) (d : α) (p : α → Bool) (k : Nat) : (selI M d p k).Nodup := List.Pairwise.filter _ List.nodup_range
theorem selI_le {α : Type} (M : List α) (d : α) (p : α → Bool) (k : Nat) : (selI M d p k).length ≤ k := by
  have h := List.length_filter_le (fun i => p (M.getD i d)) (List.range k)
  rwa [List.length_range] at h
theorem take_sel {α : Type} (M : List α) (d : α) (p : α → Bool) : ∀ k, k ≤ M.length → (M.take k).filter p = (selI M d p k).map fun i => M.getD i d
  | 0, _ => rfl
  | k + 1, hk => by
    have ih := take_sel M d p k (by omega)
    have e : M.getD k d = M[k] := by simp [List.getD, show k < M.length by omega]
    rw [List.take_succ_eq_append_getElem (by omega), List.filter_append, ih]
    cases hp : p (M.getD k d)
    · rw [selI_no hp]
      rw [e] at hp
      simp [hp]
    · rw [selI_yes hp, List.map_append]
      congr 1
      rw [e] at hp
      simp only [List.filter_cons, hp, if_true, List.filter_nil, List.map_cons, List.map_nil, e]
theorem filter_sel {α : Type} (M : List α) (d : α) (p : α → Bool) : M.filter p = (selI M d p M.length).map fun i => M.getD i d := by
  have h := take_sel M d p M.length (Nat.le_refl _)
  rwa [List.take_length] at h

/-- the rows at places that differ, in a list of their own -/
theorem OwnAC.sel {w w' : World} {B n : Nat} {v : Value} {A : Nat → Option Addr} {C : Nat → Nat} {R : Nat → List Int} (h : OwnAC w B v n A C R) {I : List Nat} (hI : ∀ i ∈ I, i < n) (hd : I.Nodup) {B' m : Nat} {u : Value} (hm : I.length = m)
    (hu : w'.ownsRow B' 39 1 u m (I.map fun i => .slice (A i) (R i).length (C i))) {B2 : Nat} (hb : Below B2 w w') (hB : w.heap.size ≤ B2) {B0 : Nat} (h0 : B0 ≤ B) (h0' : B0 ≤ B') : OwnSS w' B0 u m (fun i => R (I.getD i 0)) := by
  subst hm
  have hg : ∀ i, i < I.length → I.getD i 0 < n := fun i hi => hI _ (by
    rw [show I.getD i 0 = I[i] by simp [List.getD, hi]]
    exact List.getElem_mem hi)
  refine ⟨fun i => A (I.getD i 0), fun i => C (I.getD i 0), ?_, fun i hi => own_base (own_later (h.row _ (hg i hi)) hb hB) h0, fun i j hi hj hij => h.apart _ _ (hg i hi) (hg j hj) ?_⟩
  · have e : ssCells (fun i => A (I.getD i 0)) (fun i => C (I.getD i 0)) (fun i => R (I.getD i 0)) I.length = I.map fun i => .slice (A i) (R i).length (C i) := by
      apply List.ext_getElem
      · simp [ssCells]
      · intro j h1 h2
        have hj : j < I.length := by simpa using h2
        have q : I.getD j 0 = I[j] := by simp [List.getD, hj]
        simp only [ssCells, List.getElem_map, List.getElem_range, q]
    rw [e]
    exact own_base hu h0'
  · intro q
    rw [show I.getD i 0 = I[i] by simp [List.getD, hi], show I.getD j 0 = I[j] by simp [List.getD, hj]] at q
    rcases Nat.lt_or_gt_of_ne hij with e | e
    · exact List.pairwise_iff_getElem.1 hd i j hi hj e q
    · exact List.pairwise_iff_getElem.1 hd j i hj hi e q.symm
theorem prR_sel {M : List (Int × Int)} {p : Int × Int → Bool} {i : Nat} (hi : i < (M.filter p).length) : prR M ((selI M (0, 0) p M.length).getD i 0) = prR (M.filter p) i := by
  have e := filter_sel M (0, 0) p
  have hl : i < (selI M (0, 0) p M.length).length := by rw [e, List.length_map] at hi; exact hi
  have q : (selI M (0, 0) p M.length).getD i 0 = (selI M (0, 0) p M.length)[i] := by simp [List.getD, hl]
  have hm : (selI M (0, 0) p M.length)[i] < M.length := selI_lt (List.getElem_mem hl)
  rw [q, prR_at hm, prR_at hi]
  have e2 : (M.filter p)[i] = M[(selI M (0, 0) p M.length)[i]] := by
    simp only [e, List.getElem_map]
    simp [List.getD, hm]
  rw [e2]
theorem lsR_sel {M : List (List Int)} {p : List Int → Bool} {i : Nat} (hi : i < (M.filter p).length) : lsR M ((selI M [] p M.length).getD i 0) = lsR (M.filter p) i := by
  have e := filter_sel M [] p
  have hl : i < (selI M [] p M.length).length := by rw [e, List.length_map] at hi; exact hi
  have q : (selI M [] p M.length).getD i 0 = (selI M [] p M.length)[i] := by simp [List.getD, hl]
  unfold lsR
  rw [q]
  conv => rhs; rw [e]
  simp only [List.getD, List.getElem?_map, List.getElem?_eq_getElem hl, Option.map_some]
  rfl
theorem sel_length {α : Type} {M : List α} {d : α} {p : α → Bool} {n : Nat} (hn : M.length = n) : (selI M d p n).length = (M.filter p).length := by
  subst hn
  have h := congrArg List.length (filter_sel M d p)
  rw [List.length_map] at h
  exact h.symm

/-- the table of heaps at a chomp behind a bite -/
theorem TabC.bite {tbl : List Int} {H W : Nat} (hH : H ≤ 6) (hW : W ≤ 6) (h : TabC tbl (chs H W []) (chs H W []).length) {l : List Int} (hm : l ∈ chs H W []) {x y : Int} (hc : canC l x y = true) : tbl.getD (keyI (biteL l x y)).toNat 0 = (gr (biteL l x y) : Nat) + 1 := by
  obtain ⟨p, hp, e⟩ := List.getElem_of_mem hm
  subst e
  exact bite_before hH hW hp hc (fun i hi _ => h i hi hi)

end Go.Proofs.Ytghlgmbekgfmnaa
