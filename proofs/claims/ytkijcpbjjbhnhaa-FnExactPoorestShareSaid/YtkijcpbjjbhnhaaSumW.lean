/-
  Words: weights that can be had together: the program's increasing list, the model's table. No program.
-/
import Derived.Test.YtkijcpbjjbhnhaaWt
import Derived.Lib.SlicesCompact
import Derived.Lib.RowBridge
namespace Go.Proofs.Ytkijcpbjjbhnhaa
set_option linter.unusedVariables false
set_option linter.unusedSimpArgs false

/-- can this weight be had? -/
def rch (L : List Int) : Int → Bool := L.foldl (fun T x s => T s || T (s - x)) (fun s => s == 0)
theorem rch_take {L : List Int} {k : Nat} (hk : k < L.length) (s : Int) : rch (L.take (k + 1)) s = (rch (L.take k) s || rch (L.take k) (s - L[k])) := by
  unfold rch
  rw [List.take_succ_eq_append_getElem hk, List.foldl_append]
  rfl
theorem rch_bound {L : List Int} (hL : ∀ z ∈ L, 1 ≤ z) : ∀ (k : Nat), k ≤ L.length → ∀ (s : Int), rch (L.take k) s = true → 0 ≤ s ∧ s ≤ (L.take k).sum := by
  intro k
  induction k with
  | zero =>
    intro _ s h
    simp [rch] at h
    simp; omega
  | succ k ih =>
    intro hk s h
    have hk' : k < L.length := by omega
    have h1 := hL _ (List.getElem_mem hk')
    rw [rch_take hk', Bool.or_eq_true] at h
    rw [sum_takeW hk']
    rcases h with h | h
    · have := ih (by omega) _ h; omega
    · have := ih (by omega) _ h; omega
theorem rch_all {L : List Int} (hL : ∀ z ∈ L, 1 ≤ z) {s : Int} (h : rch L s = true) : 0 ≤ s ∧ s ≤ L.sum := by
  have := rch_bound hL L.length (Nat.le_refl _) s (by rw [List.take_length]; exact h)
  rwa [List.take_length] at this

theorem inc_eq : ∀ {a b : List Int}, a.Pairwise (· < ·) → b.Pairwise (· < ·) → (∀ z, z ∈ a ↔ z ∈ b) → a = b
  | [], [], _, _, _ => rfl
  | [], y :: b, _, _, h => by have := (h y).2 (by simp); cases this
  | x :: a, [], _, _, h => by have := (h x).1 (by simp); cases this
  | x :: a, y :: b, ha, hb, h => by
    rw [List.pairwise_cons] at ha hb
    have hxy : x = y := by
      have h1 := (h x).1 (by simp)
      have h2 := (h y).2 (by simp)
      rcases List.mem_cons.1 h1 with e | h1
      · exact e
      · rcases List.mem_cons.1 h2 with e | h2
        · exact e.symm
        · have := hb.1 _ h1; have := ha.1 _ h2; omega
    subst hxy
    congr 1
    refine inc_eq ha.2 hb.2 (fun z => ⟨fun hz => ?_, fun hz => ?_⟩)
    · rcases List.mem_cons.1 ((h z).1 (List.mem_cons_of_mem _ hz)) with e | h3
      · have := ha.1 _ hz; omega
      · exact h3
    · rcases List.mem_cons.1 ((h z).2 (List.mem_cons_of_mem _ hz)) with e | h3
      · have := hb.1 _ hz; omega
      · exact h3

/-- what compacting a row that does not fall leaves: it rises, and holds the same numbers -/
theorem compact_inc (d : Array Int) (hd : ∀ i j, i ≤ j → j < d.size → d[i]! ≤ d[j]!) : ∀ m, m ≤ d.size → (Lib.compactUpTo d m).Pairwise (· < ·) ∧ ∀ z, z ∈ Lib.compactUpTo d m ↔ ∃ j, j < m ∧ d[j]! = z := by
  intro m
  induction m with
  | zero => intro _; simp [Lib.compactUpTo]
  | succ m ih =>
    intro hm
    obtain ⟨ih1, ih2⟩ := ih (by omega)
    rw [Lib.compactUpTo_succ]
    by_cases hk : m = 0 ∨ d[m]! ≠ d[m - 1]!
    · rw [show Lib.keeps d m = true by simp [Lib.keeps, hk]]
      simp only [if_true]
      refine ⟨List.pairwise_append.2 ⟨ih1, by simp, fun a ha b hb => ?_⟩, fun z => ?_⟩
      · simp at hb
        subst hb
        obtain ⟨j, hj, rfl⟩ := (ih2 a).1 ha
        rcases hk with hk | hk
        · omega
        · have h1 := hd j (m - 1) (by omega) (by omega)
          have h2 := hd (m - 1) m (by omega) (by omega)
          omega
      · rw [List.mem_append, ih2]
        constructor
        · rintro (⟨j, hj, e⟩ | h)
          · exact ⟨j, by omega, e⟩
          · simp at h; exact ⟨m, by omega, h.symm⟩
        · rintro ⟨j, hj, e⟩
          by_cases hjm : j = m
          · subst hjm; right; simp [e]
          · left; exact ⟨j, by omega, e⟩
    · rw [show Lib.keeps d m = false by simp [Lib.keeps, hk]]
      simp only [Bool.false_eq_true, if_false, List.append_nil]
      refine ⟨ih1, fun z => ?_⟩
      rw [ih2]
      have h0 : m ≠ 0 := fun e => hk (.inl e)
      have he : d[m]! = d[m - 1]! := by
        by_cases e : d[m]! = d[m - 1]!
        · exact e
        · exact absurd (.inr e) hk
      constructor
      · rintro ⟨j, hj, e⟩; exact ⟨j, by omega, e⟩
      · rintro ⟨j, hj, e⟩
        by_cases hjm : j = m
        · subst hjm; exact ⟨j - 1, by omega, by rw [← he]; exact e⟩
        · exact ⟨j, by omega, e⟩

/-- a list sorted -/
def srt (l : List Int) : List Int := l.mergeSort fun x y => decide (x ≤ y)
theorem length_srt (l : List Int) : (srt l).length = l.length := List.length_mergeSort l
theorem srt_le (l : List Int) : ∀ i j, i ≤ j → j < (srt l).toArray.size → (srt l).toArray[i]! ≤ (srt l).toArray[j]! := by
  intro i j hij hj
  have hp : (srt l).Pairwise (fun x y => decide (x ≤ y) = true) := List.pairwise_mergeSort (fun a b c h1 h2 => by simp at *; omega) (fun a b => by simp; omega) l
  have hj' : j < (srt l).length := by simpa using hj
  rcases Nat.lt_or_eq_of_le hij with h | h
  · have := List.pairwise_iff_getElem.1 hp i j (by omega) hj' h
    simp at this
    simpa [hj', show i < (srt l).length by omega] using this
  · subst h; exact Int.le_refl _
/-- the next list of sums -/
def nextS (S : List Int) (x : Int) : List Int := Lib.compact (srt (S ++ S.map fun s => s + x))
theorem nextS_spec (S : List Int) (x : Int) : (nextS S x).Pairwise (· < ·) ∧ (∀ z, z ∈ nextS S x ↔ z ∈ S ∨ z - x ∈ S) ∧ (nextS S x).length ≤ 2 * S.length := by
  have h := compact_inc (srt (S ++ S.map fun s => s + x)).toArray (srt_le _) (srt (S ++ S.map fun s => s + x)).length (by simp)
  refine ⟨h.1, fun z => ?_, ?_⟩
  · refine (h.2 z).trans ?_
    have hm : z ∈ srt (S ++ S.map fun s => s + x) ↔ z ∈ S ∨ z - x ∈ S := by
      unfold srt
      rw [List.mem_mergeSort, List.mem_append, List.mem_map]
      constructor
      · rintro (h | ⟨s, hs, e⟩)
        · exact .inl h
        · right; rw [← e, Int.add_sub_cancel]; exact hs
      · rintro (h | h)
        · exact .inl h
        · exact .inr ⟨_, h, by omega⟩
    rw [← hm, List.mem_iff_getElem]
    constructor
    · rintro ⟨j, hj, e⟩
      exact ⟨j, hj, by simpa [hj] using e⟩
    · rintro ⟨j, hj, e⟩
      exact ⟨j, hj, by simpa [hj] using e⟩
  · have := Lib.compact_length_le (srt (S ++ S.map fun s => s + x))
    rw [length_srt] at this
    simp at this
    show (Lib.compact _).length ≤ _
    omega
/-- the program's list -/
def sP (L : List Int) : List Int := L.foldl nextS [0]
theorem sP_take {L : List Int} {k : Nat} (hk : k < L.length) : sP (L.take (k + 1)) = nextS (sP (L.take k)) L[k] := by
  unfold sP
  rw [List.take_succ_eq_append_getElem hk, List.foldl_append]
  rfl
theorem sP_spec (L : List Int) : ∀ k, k ≤ L.length → (sP (L.take k)).Pairwise (· < ·) ∧ (∀ z, z ∈ sP (L.take k) ↔ rch (L.take k) z = true) ∧ (sP (L.take k)).length ≤ 2 ^ k ∧ 1 ≤ (sP (L.take k)).length := by
  intro k
  induction k with
  | zero => intro _; simp [sP, rch]
  | succ k ih =>
    intro hk
    obtain ⟨i1, i2, i3, i4⟩ := ih (by omega)
    rw [sP_take (by omega)]
    obtain ⟨h1, h2, h3⟩ := nextS_spec (sP (L.take k)) (L[k]'(by omega))
    refine ⟨h1, fun z => ?_, by rw [Nat.pow_succ]; omega, ?_⟩
    · rw [h2, i2, i2, rch_take (by omega), Bool.or_eq_true]
    · obtain ⟨a, ha⟩ := List.exists_mem_of_length_pos i4
      exact List.length_pos_of_mem ((h2 a).2 (.inl ha))
/-- the weights that can be had, increasing -/
def srL (L : List Int) : List Int := ((List.range (L.sum.toNat + 1)).filter fun i => rch L ((i : Nat) : Int)).map fun i => ((i : Nat) : Int)
theorem sP_srL {L : List Int} (hL : ∀ z ∈ L, 1 ≤ z) : sP L = srL L := by
  have h := sP_spec L L.length (Nat.le_refl _)
  rw [List.take_length] at h
  refine inc_eq h.1 ?_ (fun z => ?_)
  · unfold srL
    rw [List.pairwise_map]
    exact (List.pairwise_lt_range.filter _).imp (fun {a b} h => by omega)
  · rw [h.2.1]
    unfold srL
    simp only [List.mem_map, List.mem_filter, List.mem_range]
    constructor
    · intro hz
      have hb := rch_all hL hz
      exact ⟨z.toNat, ⟨by omega, by rw [show ((z.toNat : Nat) : Int) = z by omega]; exact hz⟩, by omega⟩
    · rintro ⟨i, ⟨_, hi⟩, rfl⟩; exact hi
/-- the answer -/
def srR (L : List Int) : List Int := if wtB L then srL L else []
theorem srR_no {L : List Int} (h : wtB L = false) : srR L = [] := by simp [srR, h]
theorem srR_yes {L : List Int} (h : wtB L = true) : srR L = srL L := by simp [srR, h]
theorem sum_wt {L : List Int} (h : wtB L = true) : 0 ≤ L.sum ∧ L.sum ≤ 12000 := by
  obtain ⟨h1, h2, h3⟩ := wtB_true h
  have := sumW_bound (l := L) (fun z hz => by have := h3 z hz; omega)
  omega
theorem length_srR (L : List Int) : (srR L).length ≤ 12001 := by
  unfold srR
  split
  · rename_i h
    have := sum_wt h
    unfold srL
    rw [List.length_map]
    exact Nat.le_trans (List.length_filter_le _ _) (by simp; omega)
  · simp
end Go.Proofs.Ytkijcpbjjbhnhaa
