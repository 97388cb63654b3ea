/-
  The mathematics of the poorest share: it does not hang on who has what. Nothing of the program is named here.
-/
import Derived.Test.YtkijcpbjjbhnhaaSumW
namespace Go.Proofs.Ytkijcpbjjbhnhaa
set_option linter.unusedVariables false
set_option linter.unusedSimpArgs false

theorem set_permE : ∀ (l : List Int) (i : Nat) (v : Int), i < l.length → (l.set i v).Perm (v :: l.eraseIdx i)
  | [], i, v, h => by simp at h
  | a :: l, 0, v, h => by simp
  | a :: l, i + 1, v, h => by
    have ih := set_permE l i v (by simpa using h)
    simp only [List.set_cons_succ, List.eraseIdx_cons_succ]
    exact (List.Perm.cons a ih).trans (List.Perm.swap v a _)
theorem get_permE (l : List Int) (i : Nat) (h : i < l.length) : l.Perm (l.getD i 0 :: l.eraseIdx i) := by
  have := set_permE l i (l.getD i 0) h
  have e : l.set i (l.getD i 0) = l := by
    rw [show l.getD i 0 = l[i] by simp [List.getD, h]]
    exact List.set_getElem_self h
  rwa [e] at this
/-- one of them gets a bar more -/
def bumpL (h : List Int) (i : Nat) (w : Int) : List Int := h.set i (h.getD i 0 + w)
theorem length_bumpL (h : List Int) (i : Nat) (w : Int) : (bumpL h i w).length = h.length := by simp [bumpL]
theorem bump_perm {h h' : List Int} (hp : h.Perm h') {i j : Nat} (hi : i < h.length) (hj : j < h'.length) (e : h.getD i 0 = h'.getD j 0) (w : Int) : (bumpL h i w).Perm (bumpL h' j w) := by
  have h1 := get_permE h i hi
  have h2 := get_permE h' j hj
  rw [← e] at h2
  have h3 : (h.eraseIdx i).Perm (h'.eraseIdx j) := List.Perm.cons_inv ((h1.symm.trans hp).trans h2)
  unfold bumpL
  rw [← e]
  exact ((set_permE h i _ hi).trans (h3.cons _)).trans (set_permE h' j _ hj).symm

theorem foldMax_spec : ∀ (l : List Int) (a : Int), a ≤ l.foldl max a ∧ (∀ x ∈ l, x ≤ l.foldl max a) ∧ (l.foldl max a = a ∨ l.foldl max a ∈ l)
  | [], a => by simp
  | b :: l, a => by
    obtain ⟨h1, h2, h3⟩ := foldMax_spec l (max a b)
    rw [List.foldl_cons]
    refine ⟨by omega, fun x hx => ?_, ?_⟩
    · rcases List.mem_cons.1 hx with rfl | hx
      · omega
      · exact h2 x hx
    · rcases h3 with h3 | h3
      · rcases (show max a b = a ∨ max a b = b by omega) with e | e
        · left; omega
        · right; rw [h3, e]; simp
      · right; exact List.mem_cons_of_mem _ h3
theorem foldMin_spec : ∀ (l : List Int) (a : Int), l.foldl min a ≤ a ∧ (∀ x ∈ l, l.foldl min a ≤ x) ∧ (l.foldl min a = a ∨ l.foldl min a ∈ l)
  | [], a => by simp
  | b :: l, a => by
    obtain ⟨h1, h2, h3⟩ := foldMin_spec l (min a b)
    rw [List.foldl_cons]
    refine ⟨by omega, fun x hx => ?_, ?_⟩
    · rcases List.mem_cons.1 hx with rfl | hx
      · omega
      · exact h2 x hx
    · rcases h3 with h3 | h3
      · rcases (show min a b = a ∨ min a b = b by omega) with e | e
        · left; omega
        · right; rw [h3, e]; simp
      · right; exact List.mem_cons_of_mem _ h3
/-- what the least of some is -/
def minL (h : List Int) : Int := h.foldl min (h.headD 0)
theorem minL_mem {h : List Int} (hn : 1 ≤ h.length) : minL h ∈ h := by
  rcases (foldMin_spec h (h.headD 0)).2.2 with e | e
  · unfold minL
    rw [e]
    cases h
    · simp at hn
    · simp
  · exact e
theorem minL_le {h : List Int} : ∀ x ∈ h, minL h ≤ x := (foldMin_spec h (h.headD 0)).2.1
theorem minL_eq {h : List Int} {t : Int} (h1 : t ∈ h) (h2 : ∀ x ∈ h, t ≤ x) : minL h = t := by
  have h3 := minL_le (h := h) t h1
  have h4 := h2 _ (minL_mem (List.length_pos_of_mem h1))
  omega
theorem minL_perm {h h' : List Int} (hp : h.Perm h') : minL h = minL h' := by
  by_cases hn : 1 ≤ h.length
  · have hn' : 1 ≤ h'.length := by rw [← hp.length_eq]; exact hn
    refine minL_eq (hp.mem_iff.2 (minL_mem hn')) (fun x hx => minL_le x (hp.mem_iff.1 hx))
  · have e : h = [] := List.eq_nil_of_length_eq_zero (by omega)
    subst e
    rw [List.nil_perm.1 hp]
/-- what the poorest can have in the end -/
def poorV : List Int → List Int → Int
  | [], h => minL h
  | w :: ws, h => ((List.range h.length).map fun i => poorV ws (bumpL h i w)).foldl max 0
theorem poorV_spec (w : Int) (ws h : List Int) : 0 ≤ poorV (w :: ws) h ∧ (∀ i, i < h.length → poorV ws (bumpL h i w) ≤ poorV (w :: ws) h) ∧ (poorV (w :: ws) h = 0 ∨ ∃ i, i < h.length ∧ poorV ws (bumpL h i w) = poorV (w :: ws) h) := by
  obtain ⟨h1, h2, h3⟩ := foldMax_spec ((List.range h.length).map fun i => poorV ws (bumpL h i w)) 0
  refine ⟨h1, fun i hi => h2 _ (List.mem_map.2 ⟨i, List.mem_range.2 hi, rfl⟩), ?_⟩
  rcases h3 with h3 | h3
  · exact .inl h3
  · obtain ⟨i, hi, e⟩ := List.mem_map.1 h3
    exact .inr ⟨i, List.mem_range.1 hi, e⟩
theorem poorV_perm : ∀ (ws : List Int) {h h' : List Int}, h.Perm h' → poorV ws h = poorV ws h'
  | [], _, _, hp => minL_perm hp
  | w :: ws, h, h', hp => by
    have key : ∀ {a b : List Int}, a.Perm b → poorV (w :: ws) a ≤ poorV (w :: ws) b := fun {a b} hp => by
      obtain ⟨_, _, h3⟩ := poorV_spec w ws a
      obtain ⟨k1, k2, _⟩ := poorV_spec w ws b
      rcases h3 with h3 | ⟨i, hi, e⟩
      · omega
      · have hm : a.getD i 0 ∈ b := hp.mem_iff.1 (by rw [show a.getD i 0 = a[i] by simp [List.getD, hi]]; exact List.getElem_mem hi)
        obtain ⟨j, hj, ej⟩ := List.mem_iff_getElem.1 hm
        have h4 := k2 j hj
        rw [← poorV_perm ws (bump_perm hp hi hj (by rw [← ej]; simp [List.getD, hj]) w), e] at h4
        exact h4
    have h1 := key hp
    have h2 := key hp.symm
    omega
theorem bump_nonneg {h : List Int} {i : Nat} {w : Int} (hh : ∀ x ∈ h, 0 ≤ x) (hw : 0 ≤ w) : ∀ x ∈ bumpL h i w, 0 ≤ x := by
  intro x hx
  unfold bumpL at hx
  rcases List.mem_or_eq_of_mem_set hx with hx | hx
  · exact hh x hx
  · rw [hx]
    by_cases hi : i < h.length
    · have := hh _ (List.getElem_mem hi)
      simp only [List.getD, List.getElem?_eq_getElem hi, Option.getD_some]
      omega
    · simp only [List.getD, List.getElem?_eq_none (by omega : h.length ≤ i), Option.getD_none]
      omega
theorem poorV_nonneg : ∀ (ws : List Int) (h : List Int), (∀ x ∈ h, 0 ≤ x) → 0 ≤ poorV ws h
  | [], h, hh => by
    by_cases hn : 1 ≤ h.length
    · exact hh _ (minL_mem hn)
    · have e : h = [] := List.eq_nil_of_length_eq_zero (by omega)
      subst e
      simp [poorV, minL]
  | w :: ws, h, hh => (poorV_spec w ws h).1
/-- the best of the first so many choices -/
def TopI (h : List Int) (w : Int) (ws : List Int) (i : Nat) (t : Int) : Prop := (∀ j, j < i → poorV ws (bumpL h j w) ≤ t) ∧ (t ≤ 0 ∨ ∃ j, j < i ∧ poorV ws (bumpL h j w) = t)
theorem TopI.start {h : List Int} {w : Int} {ws : List Int} {t : Int} (ht : t ≤ 0) : TopI h w ws 0 t := ⟨fun j hj => by omega, .inl ht⟩
theorem TopI.take {h : List Int} {w : Int} {ws : List Int} {i : Nat} {t : Int} (k : TopI h w ws i t) : TopI h w ws (i + 1) (max t (poorV ws (bumpL h i w))) := by
  refine ⟨fun j hj => ?_, ?_⟩
  · by_cases e : j = i
    · subst e; omega
    · have := k.1 j (by omega); omega
  · rcases (show max t (poorV ws (bumpL h i w)) = t ∨ max t (poorV ws (bumpL h i w)) = poorV ws (bumpL h i w) by omega) with e | e
    · rw [e]
      rcases k.2 with h | ⟨j, hj, h⟩
      · exact .inl h
      · exact .inr ⟨j, by omega, h⟩
    · exact .inr ⟨i, by omega, e.symm⟩
theorem TopI.skip {h : List Int} {w : Int} {ws : List Int} {i j : Nat} {t : Int} (k : TopI h w ws i t) (hj : j < i) (e : poorV ws (bumpL h i w) = poorV ws (bumpL h j w)) : TopI h w ws (i + 1) t := by
  refine ⟨fun j' hj' => ?_, ?_⟩
  · by_cases e2 : j' = i
    · subst e2; rw [e]; exact k.1 j hj
    · exact k.1 j' (by omega)
  · rcases k.2 with h | ⟨j, hj, h⟩
    · exact .inl h
    · exact .inr ⟨j, by omega, h⟩
theorem TopI.done {h : List Int} {w : Int} {ws : List Int} {t : Int} (k : TopI h w ws h.length t) (hn : 1 ≤ h.length) (hh : ∀ x ∈ h, 0 ≤ x) (hw : 0 ≤ w) : t = poorV (w :: ws) h := by
  obtain ⟨h1, h2, h3⟩ := poorV_spec w ws h
  have h4 := k.1 0 (by omega)
  have h5 := poorV_nonneg ws (bumpL h 0 w) (bump_nonneg hh hw)
  have h6 : poorV (w :: ws) h ≤ t := by
    rcases h3 with h3 | ⟨i, hi, e⟩
    · omega
    · have := k.1 i hi; omega
  have h7 : t ≤ poorV (w :: ws) h := by
    rcases k.2 with h | ⟨j, hj, e⟩
    · omega
    · have := h2 j hj; omega
  omega
/-- where a number stands that stood before, too, nothing is new -/
theorem poor_same {h : List Int} {w : Int} {ws : List Int} {i j : Nat} (hi : i < h.length) (hj : j < h.length) (e : h.getD i 0 = h.getD j 0) : poorV ws (bumpL h i w) = poorV ws (bumpL h j w) :=
  poorV_perm ws (bump_perm (List.Perm.refl h) hi hj e w)
theorem srt_perm (l : List Int) : (srt l).Perm l := List.mergeSort_perm l _
/-- the poorest of some who stand in order -/
theorem minL_sorted {h : List Int} (hn : 1 ≤ h.length) : minL (srt h) = (srt h).getD 0 0 := by
  have hl : 0 < (srt h).length := by rw [length_srt]; omega
  refine minL_eq ?_ (fun x hx => ?_)
  · rw [show (srt h).getD 0 0 = (srt h)[0] by simp [List.getD, hl]]; exact List.getElem_mem hl
  · obtain ⟨j, hj, rfl⟩ := List.mem_iff_getElem.1 hx
    have := srt_le h 0 j (by omega) (by simpa using hj)
    simpa [List.getD, hl, hj] using this
end Go.Proofs.Ytkijcpbjjbhnhaa
