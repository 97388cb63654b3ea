/-
  The mathematics of halves: all lists that go on from one, in order, and those of bits: the same up to order; the evenest ones, the first of them. Nothing of the program is named here.
-/
import Derived.Test.YtkijcpbjjbhnhaaStkI
namespace Go.Proofs.Ytkijcpbjjbhnhaa
open Go.RowKit
set_option linter.unusedVariables false
set_option linter.unusedSimpArgs false

/-- all lists that go on from one by numbers from i on, below i + d, in order -/
def extE : Nat → Nat → List Int → List (List Int)
  | 0, _, p => [p]
  | d + 1, i, p => p :: (extE d (i + 1) (p ++ [(i : Int)]) ++ (extE d (i + 1) p).tail)
theorem extE_head (d i : Nat) (p : List Int) : extE d i p = p :: (extE d i p).tail := by cases d <;> rfl
theorem extE_tail (d i : Nat) (p : List Int) : (extE (d + 1) i p).tail = extE d (i + 1) (p ++ [(i : Int)]) ++ (extE d (i + 1) p).tail := rfl
theorem extE_len (d : Nat) : ∀ (i : Nat) (p : List Int), (extE d i p).length = 2 ^ d := by
  induction d with
  | zero => intro i p; rfl
  | succ d ih =>
    intro i p
    have h1 := ih (i + 1) (p ++ [(i : Int)])
    have h2 := ih (i + 1) p
    have h3 : 0 < 2 ^ d := Nat.pow_pos (by omega)
    simp only [extE, List.length_cons, List.length_append, List.length_tail, h1, h2, Nat.pow_succ]
    omega
theorem extE_mem (d : Nat) : ∀ (i : Nat) (p : List Int), ∀ t ∈ (extE d i p).tail, ∃ (j : Nat) (y : List Int), i ≤ j ∧ j < i + d ∧ t = p ++ (j : Int) :: y ∧ (∀ z ∈ y, (i : Int) ≤ z ∧ z < (i + d : Nat)) := by
  induction d with
  | zero => intro i p t ht; simp [extE] at ht
  | succ d ih =>
    intro i p t ht
    rw [extE_tail, List.mem_append] at ht
    rcases ht with ht | ht
    · rw [extE_head] at ht
      rcases List.mem_cons.1 ht with rfl | ht
      · exact ⟨i, [], Nat.le_refl _, by omega, rfl, by simp⟩
      · obtain ⟨j, y, h1, h2, rfl, h3⟩ := ih (i + 1) (p ++ [(i : Int)]) t ht
        refine ⟨i, (j : Int) :: y, Nat.le_refl _, by omega, by simp, ?_⟩
        intro z hz
        rcases List.mem_cons.1 hz with rfl | hz
        · omega
        · have := h3 z hz; omega
    · obtain ⟨j, y, h1, h2, rfl, h3⟩ := ih (i + 1) p t ht
      exact ⟨j, y, by omega, by omega, rfl, fun z hz => by have := h3 z hz; omega⟩
theorem extE_in {d i n : Nat} {p : List Int} (hp : ∀ z ∈ p, 0 ≤ z ∧ z < n) (h : i + d ≤ n) : ∀ t ∈ extE d i p, ∀ z ∈ t, 0 ≤ z ∧ z < n := by
  intro t ht z hz
  rw [extE_head] at ht
  rcases List.mem_cons.1 ht with rfl | ht
  · exact hp z hz
  · obtain ⟨j, y, h1, h2, rfl, h3⟩ := extE_mem d i p t ht
    rcases List.mem_append.1 hz with hz | hz
    · exact hp z hz
    · rcases List.mem_cons.1 hz with rfl | hz
      · omega
      · have := h3 z hz; omega
theorem extE_short (d : Nat) : ∀ (i : Nat) (p : List Int), ∀ t ∈ extE d i p, t.length ≤ p.length + d := by
  induction d with
  | zero => intro i p t ht; simp [extE] at ht; subst ht; omega
  | succ d ih =>
    intro i p t ht
    rw [extE_head, extE_tail] at ht
    rcases List.mem_cons.1 ht with rfl | ht
    · omega
    · rcases List.mem_append.1 ht with ht | ht
      · have := ih _ _ t ht; simp at this; omega
      · have := ih _ _ t (List.mem_of_mem_tail ht); omega
/-- a list comes before another one -/
def bef : List Int → List Int → Bool
  | [], [] => false
  | [], _ :: _ => true
  | _ :: _, [] => false
  | x :: xs, y :: ys => decide (x < y) || (decide (x = y) && bef xs ys)
theorem bef_prefix (p a b : List Int) : bef (p ++ a) (p ++ b) = bef a b := by
  induction p with
  | nil => rfl
  | cons x p ih => simp [bef, ih]
theorem bef_irrefl (a : List Int) : bef a a = false := by
  induction a with
  | nil => rfl
  | cons x p ih => simp [bef, ih]
theorem extE_sorted (d : Nat) : ∀ (i : Nat) (p : List Int), (extE d i p).Pairwise (fun a b => bef a b = true) := by
  induction d with
  | zero => intro i p; simp [extE]
  | succ d ih =>
    intro i p
    simp only [extE]
    rw [List.pairwise_cons, List.pairwise_append]
    refine ⟨?_, ih _ _, ?_, ?_⟩
    · intro t ht
      have ht : t ∈ (extE (d + 1) i p).tail := ht
      obtain ⟨j, y, _, _, rfl, _⟩ := extE_mem (d + 1) i p t ht
      have e := bef_prefix p [] ((j : Int) :: y)
      rw [List.append_nil] at e
      rw [e]; rfl
    · have := ih (i + 1) p
      rw [extE_head, List.pairwise_cons] at this
      exact this.2
    · intro a ha b hb
      obtain ⟨j, y, h1, _, rfl, _⟩ := extE_mem d (i + 1) p b hb
      have : ∃ x, a = p ++ (i : Int) :: x := by
        rw [extE_head] at ha
        rcases List.mem_cons.1 ha with rfl | ha
        · exact ⟨[], rfl⟩
        · obtain ⟨j2, y2, _, _, rfl, _⟩ := extE_mem d (i + 1) _ a ha
          exact ⟨(j2 : Int) :: y2, by simp⟩
      obtain ⟨x, rfl⟩ := this
      rw [bef_prefix]
      simp only [bef]
      simp
      left
      omega
theorem extE_perm1 (d i : Nat) (p : List Int) : (extE (d + 1) i p).Perm (extE d (i + 1) (p ++ [(i : Int)]) ++ extE d (i + 1) p) := by
  rw [extE_head d (i + 1) p]
  simp only [extE]
  exact List.perm_middle.symm
theorem extE_perm2 (d : Nat) : ∀ (i : Nat) (p : List Int), (extE (d + 1) i p).Perm (extE d i p ++ (extE d i p).map (fun t => t ++ [((i + d : Nat) : Int)])) := by
  induction d with
  | zero => intro i p; simp [extE]
  | succ d ih =>
    intro i p
    refine (extE_perm1 (d + 1) i p).trans ?_
    refine ((ih (i + 1) (p ++ [(i : Int)])).append (ih (i + 1) p)).trans ?_
    have e : i + 1 + d = i + (d + 1) := by omega
    rw [e]
    have h := extE_perm1 d i p
    refine List.Perm.trans ?_ (h.symm.append (h.symm.map (fun t => t ++ [((i + (d + 1) : Nat) : Int)])))
    rw [List.map_append]
    generalize extE d (i + 1) (p ++ [(i : Int)]) = X
    generalize extE d (i + 1) p = Y
    generalize List.map (fun t => t ++ [((i + (d + 1) : Nat) : Int)]) X = X'
    generalize List.map (fun t => t ++ [((i + (d + 1) : Nat) : Int)]) Y = Y'
    rw [List.append_assoc, List.append_assoc]
    refine List.Perm.append_left X ?_
    rw [← List.append_assoc, ← List.append_assoc]
    exact List.Perm.append_right Y' List.perm_append_comm
/-- the bars of some bits -/
def subB (n b : Nat) : List Int := ((List.range n).filter fun i => b / 2 ^ i % 2 = 1).map fun (i : Nat) => (i : Int)
theorem subB_succ (n b : Nat) : subB (n + 1) b = subB n b ++ (if b / 2 ^ n % 2 = 1 then [(n : Int)] else []) := by
  unfold subB
  rw [List.range_succ, List.filter_append, List.map_append]
  congr 1
  by_cases h : b / 2 ^ n % 2 = 1 <;> simp [h]
theorem bit_add {n i b : Nat} (hi : i < n) : (2 ^ n + b) / 2 ^ i % 2 = b / 2 ^ i % 2 := by
  have e : 2 ^ n = 2 ^ i * (2 * 2 ^ (n - i - 1)) := by
    rw [← Nat.pow_succ', ← Nat.pow_add]; congr 1; omega
  rw [e, Nat.mul_add_div (Nat.pow_pos (by omega)), Nat.mul_add_mod]
theorem subB_add (n : Nat) : ∀ k, k ≤ n → ∀ b, subB k (2 ^ n + b) = subB k b := by
  intro k
  induction k with
  | zero => intro _ b; rfl
  | succ k ih =>
    intro hk b
    rw [subB_succ, subB_succ, ih (by omega), bit_add (by omega)]
theorem subB_low {n b : Nat} (hb : b < 2 ^ n) : subB (n + 1) b = subB n b := by
  rw [subB_succ, Nat.div_eq_of_lt hb]; simp
theorem subB_high {n b : Nat} (hb : b < 2 ^ n) : subB (n + 1) (2 ^ n + b) = subB n b ++ [(n : Int)] := by
  rw [subB_succ, subB_add n n (Nat.le_refl _), Nat.add_div_left _ (Nat.pow_pos (by omega)), Nat.div_eq_of_lt hb]; simp
/-- the halves in the order of their bits -/
def bitH (n k : Nat) : List (List Int) := (List.range k).map fun m => subB n (2 * m + 1)
theorem bitH_succ (n k : Nat) : bitH n (k + 1) = bitH n k ++ [subB n (2 * k + 1)] := by simp [bitH, List.range_succ]
theorem range_add (a b : Nat) : List.range (a + b) = List.range a ++ (List.range b).map (a + ·) := by rw [List.range_add]
theorem bitH_perm : ∀ n, (bitH (n + 1) (2 ^ n)).Perm (extE n 1 [0]) := by
  intro n
  induction n with
  | zero => decide
  | succ n ih =>
    refine List.Perm.trans ?_ (extE_perm2 n 1 [0]).symm
    have e : bitH (n + 2) (2 ^ (n + 1)) = bitH (n + 1) (2 ^ n) ++ (bitH (n + 1) (2 ^ n)).map (fun t => t ++ [((1 + n : Nat) : Int)]) := by
      unfold bitH
      rw [show 2 ^ (n + 1) = 2 ^ n + 2 ^ n by rw [Nat.pow_succ]; omega, range_add, List.map_append, List.map_map, List.map_map]
      congr 1
      · apply List.map_congr_left
        intro m hm
        have hm := List.mem_range.1 hm
        exact subB_low (by rw [Nat.pow_succ]; omega)
      · apply List.map_congr_left
        intro m hm
        have hm := List.mem_range.1 hm
        simp only [Function.comp]
        rw [show 2 * (2 ^ n + m) + 1 = 2 ^ (n + 1) + (2 * m + 1) by rw [Nat.pow_succ]; omega]
        rw [subB_high (n := n + 1) (by rw [Nat.pow_succ]; omega), Nat.add_comm 1 n]
    rw [e]
    exact ih.append (ih.map _)
/-- the lighter one of a half and the other one -/
def mnH (W h : List Int) : Int := min (wtsum W h) (W.sum - wtsum W h)
/-- the greatest such of some halves -/
def bkL (W : List Int) (L : List (List Int)) : Int := L.foldl (fun m h => max m (mnH W h)) 0
def evenL (W : List Int) (L : List (List Int)) : List (List Int) := L.filter fun h => decide (mnH W h = bkL W L)
theorem bkL_snoc (W : List Int) (L : List (List Int)) (h : List Int) : bkL W (L ++ [h]) = max (bkL W L) (mnH W h) := by simp [bkL, List.foldl_append]
theorem bkL_ge (W : List Int) : ∀ (L : List (List Int)) (m : Int), m ≤ L.foldl (fun m h => max m (mnH W h)) m ∧ ∀ h ∈ L, mnH W h ≤ L.foldl (fun m h => max m (mnH W h)) m := by
  intro L
  induction L with
  | nil => intro m; simp
  | cons a L ih =>
    intro m
    obtain ⟨h1, h2⟩ := ih (max m (mnH W a))
    simp only [List.foldl_cons]
    refine ⟨by omega, fun h hh => ?_⟩
    rcases List.mem_cons.1 hh with rfl | hh
    · omega
    · exact h2 h hh
theorem bkL_att (W : List Int) : ∀ (L : List (List Int)) (m : Int), L.foldl (fun m h => max m (mnH W h)) m = m ∨ ∃ h ∈ L, mnH W h = L.foldl (fun m h => max m (mnH W h)) m := by
  intro L
  induction L with
  | nil => intro m; exact .inl rfl
  | cons a L ih =>
    intro m
    simp only [List.foldl_cons]
    rcases ih (max m (mnH W a)) with h | ⟨h, hh, e⟩
    · rw [h]
      by_cases hm : mnH W a ≤ m
      · exact .inl (by omega)
      · exact .inr ⟨a, by simp, by omega⟩
    · exact .inr ⟨h, by simp [hh], e⟩
theorem bkL_nonneg (W : List Int) (L : List (List Int)) : 0 ≤ bkL W L := (bkL_ge W L 0).1
theorem bkL_le {W : List Int} {L : List (List Int)} {h : List Int} (hh : h ∈ L) : mnH W h ≤ bkL W L := (bkL_ge W L 0).2 h hh
theorem bkL_perm {W : List Int} {L M : List (List Int)} (h : L.Perm M) : bkL W L = bkL W M := by
  have key : ∀ {L M : List (List Int)}, L.Perm M → bkL W L ≤ bkL W M := fun {L M} h => by
    rcases bkL_att W L 0 with e | ⟨t, ht, e⟩
    · show L.foldl _ 0 ≤ _; rw [e]; exact bkL_nonneg W M
    · show L.foldl _ 0 ≤ _; rw [← e]; exact bkL_le (h.mem_iff.1 ht)
  exact Int.le_antisymm (key h) (key h.symm)
theorem evenL_perm {W : List Int} {L M : List (List Int)} (h : L.Perm M) : (evenL W L).Perm (evenL W M) := by
  unfold evenL
  rw [bkL_perm h]
  exact h.filter _
theorem evenL_ne {W : List Int} {L : List (List Int)} (hL : L ≠ []) (h0 : ∀ h ∈ L, 0 ≤ mnH W h) : evenL W L ≠ [] := by
  have : ∃ h ∈ L, mnH W h = bkL W L := by
    rcases bkL_att W L 0 with e | h
    · obtain ⟨a, ha⟩ := List.exists_mem_of_ne_nil L hL
      refine ⟨a, ha, ?_⟩
      have h1 := h0 a ha
      have h2 := bkL_le (W := W) ha
      have h3 : bkL W L = 0 := e
      omega
    · exact h
  obtain ⟨h, hh, e⟩ := this
  exact List.ne_nil_of_mem (List.mem_filter.2 ⟨hh, by simpa using e⟩)
theorem evenL_more {W : List Int} {L : List (List Int)} {h : List Int} (hm : bkL W L < mnH W h) : evenL W (L ++ [h]) = [h] := by
  unfold evenL
  rw [bkL_snoc, List.filter_append, show max (bkL W L) (mnH W h) = mnH W h by omega]
  have : L.filter (fun t => decide (mnH W t = mnH W h)) = [] := by
    rw [List.filter_eq_nil_iff]
    intro t ht e
    have := bkL_le (W := W) ht
    simp at e
    omega
  rw [this]; simp
theorem evenL_same {W : List Int} {L : List (List Int)} {h : List Int} (hm : mnH W h = bkL W L) : evenL W (L ++ [h]) = evenL W L ++ [h] := by
  unfold evenL
  rw [bkL_snoc, List.filter_append, show max (bkL W L) (mnH W h) = bkL W L by omega]
  simp [hm]
theorem evenL_less {W : List Int} {L : List (List Int)} {h : List Int} (hm : mnH W h < bkL W L) : evenL W (L ++ [h]) = evenL W L := by
  unfold evenL
  rw [bkL_snoc, List.filter_append, show max (bkL W L) (mnH W h) = bkL W L by omega]
  have : ¬ mnH W h = bkL W L := by omega
  simp [this]
theorem wtsum_app (W a b : List Int) : wtsum W (a ++ b) = wtsum W a + wtsum W b := by simp [wtsum]
theorem wtsum_sub {W : List Int} (hW : ∀ z ∈ W, 0 ≤ z) (b : Nat) : ∀ k, k ≤ W.length → 0 ≤ wtsum W (subB k b) ∧ wtsum W (subB k b) ≤ (W.take k).sum := by
  intro k
  induction k with
  | zero => intro _; simp [wtsum, subB]
  | succ k ih =>
    intro hk
    have h := ih (by omega)
    rw [subB_succ, wtsum_app, List.take_succ_eq_append_getElem (by omega), List.sum_append]
    have hz := hW W[k] (List.getElem_mem _)
    have e : wtsum W [(k : Int)] = W[k] := by simp [wtsum, List.getElem?_eq_getElem (show k < W.length by omega)]
    split
    · rw [e]; simp; omega
    · simp [wtsum] at h ⊢; omega
theorem mnH_nonneg {W : List Int} (hW : ∀ z ∈ W, 0 ≤ z) {k : Nat} : ∀ h ∈ bitH W.length k, 0 ≤ mnH W h ∧ 0 ≤ wtsum W h ∧ wtsum W h ≤ W.sum := by
  intro h hh
  obtain ⟨m, _, rfl⟩ := List.mem_map.1 hh
  have := wtsum_sub hW (2 * m + 1) W.length (Nat.le_refl _)
  rw [List.take_length] at this
  unfold mnH
  omega
/-- the first of sorted ones is what comes before all others -/
theorem first_unique {L : List (List Int)} {f : List Int} (hs : L.Pairwise (fun a b => bef a b = true)) (hf : f ∈ L) (hm : ∀ g ∈ L, bef g f = false) : L.head? = some f := by
  cases L with
  | nil => simp at hf
  | cons a L =>
    rcases List.mem_cons.1 hf with rfl | hf
    · rfl
    · rw [List.pairwise_cons] at hs
      have h1 := hs.1 f hf
      have h2 := hm a (by simp)
      rw [h1] at h2; cases h2
theorem abs_mn (all s : Int) : max (all - 2 * s) (-(all - 2 * s)) = all - 2 * min s (all - s) := by omega

end Go.Proofs.Ytkijcpbjjbhnhaa
