/-
  Words: the number of plays of the kept game, as the one solution of its recurrence; the order in which bars are counted.
-/
import Derived.Test.YthemmckchmpicaaWithin4
import Derived.Test.YthemmckchmpicaaTreesW
namespace Go.Proofs.Ythemmckchmpicaa
open Go.RowKit Go.Maps
set_option linter.unusedVariables false
set_option linter.unusedSimpArgs false

def kst (M : Int × Int → Int) (s : Int) (p : Int × Int) : Int := min (s + M p) 1000000000000001
def kfold (M : Int × Int → Int) (l : List (Int × Int)) (s : Int) : Int := l.foldl (kst M) s
def kone (p : Int × Int) : Int := if p.1 = 1 ∧ p.2 = 1 then 1 else 0
def kpF : Nat → Int × Int → Int
  | 0, _ => 0
  | f + 1, p => kfold (kpF f) (kmL p.1 p.2) (kone p)
def kpK (p : Int × Int) : Int := kpF 24 p

theorem kfold_take (M : Int × Int → Int) {l : List (Int × Int)} {k : Nat} (h : k < l.length) (s : Int) : kfold M (l.take (k + 1)) s = min (kfold M (l.take k) s + M l[k]) 1000000000000001 := by
  unfold kfold
  rw [List.take_succ_eq_append_getElem h, List.foldl_append]
  rfl
theorem kfold_congr {M N : Int × Int → Int} : ∀ {l : List (Int × Int)} {s : Int}, (∀ q ∈ l, M q = N q) → kfold M l s = kfold N l s
  | [], _, _ => rfl
  | p :: r, s, h => by
    unfold kfold
    simp only [List.foldl_cons]
    have e : kst M s p = kst N s p := by unfold kst; rw [h p (by simp)]
    rw [e]
    exact kfold_congr (l := r) (fun q hq => h q (List.mem_cons_of_mem _ hq))
theorem kfold_in {M : Int × Int → Int} : ∀ {l : List (Int × Int)} {s : Int}, (∀ q ∈ l, 0 ≤ M q) → 0 ≤ s → s ≤ 1000000000000001 → 0 ≤ kfold M l s ∧ kfold M l s ≤ 1000000000000001
  | [], s, _, h0, h1 => ⟨h0, h1⟩
  | p :: r, s, h, h0, h1 => by
    unfold kfold
    simp only [List.foldl_cons]
    have hp := h p (by simp)
    exact kfold_in (l := r) (s := kst M s p) (fun q hq => h q (List.mem_cons_of_mem _ hq)) (by unfold kst; omega) (by unfold kst; omega)
theorem kpF_in : ∀ (f : Nat) (p : Int × Int), 0 ≤ kpF f p ∧ kpF f p ≤ 1000000000000001
  | 0, p => by simp [kpF]
  | f + 1, p => kfold_in (fun q _ => (kpF_in f q).1) (by unfold kone; split <;> omega) (by unfold kone; split <;> omega)
theorem kpK_in (p : Int × Int) : 0 ≤ kpK p ∧ kpK p ≤ 1000000000000001 := kpF_in 24 p

theorem mem_lnL {d : Bool} {x y : Int} {q : Int × Int} : ∀ {k : Nat}, q ∈ lnL d x y k → ∃ j : Nat, j < k ∧ q = part1 x y d ((j : Int) + 1)
  | 0, h => by simp [lnL] at h
  | k + 1, h => by
    simp only [lnL, List.mem_append, List.mem_singleton] at h
    rcases h with h | h
    · obtain ⟨j, h1, h2⟩ := mem_lnL h
      exact ⟨j, by omega, h2⟩
    · exact ⟨k, by omega, h⟩
theorem mem_kmL {x y : Int} {q : Int × Int} (h : q ∈ kmL x y) : (q.2 = y ∧ 1 ≤ q.1 ∧ q.1 < x) ∨ (q.1 = x ∧ 1 ≤ q.2 ∧ q.2 < y) := by
  simp only [kmL, List.mem_append] at h
  rcases h with h | h
  · obtain ⟨j, h1, rfl⟩ := mem_lnL h
    simp [lnN] at h1
    exact .inl (by simp [part1]; omega)
  · obtain ⟨j, h1, rfl⟩ := mem_lnL h
    simp [lnN] at h1
    exact .inr (by simp [part1]; omega)
theorem kpF_stable : ∀ (f g : Nat) (p : Int × Int), barB p.1 p.2 = true → (p.1 + p.2).toNat ≤ f → (p.1 + p.2).toNat ≤ g → kpF f p = kpF g p
  | 0, _, p, hB, hf, _ => by obtain ⟨h1, h2, h3, h4⟩ := barB_true hB; omega
  | f + 1, 0, p, hB, _, hg => by obtain ⟨h1, h2, h3, h4⟩ := barB_true hB; omega
  | f + 1, g + 1, p, hB, hf, hg => by
    obtain ⟨h1, h2, h3, h4⟩ := barB_true hB
    simp only [kpF]
    refine kfold_congr fun q hq => ?_
    have hb := kmL_bars hB q hq
    rcases mem_kmL hq with ⟨a, b, c⟩ | ⟨a, b, c⟩
    · exact kpF_stable f g q hb (by omega) (by omega)
    · exact kpF_stable f g q hb (by omega) (by omega)
theorem kpK_eq {p : Int × Int} (hB : barB p.1 p.2 = true) : kpK p = kfold kpK (kmL p.1 p.2) (kone p) := by
  obtain ⟨h1, h2, h3, h4⟩ := barB_true hB
  unfold kpK
  rw [show kpF 24 p = kfold (kpF 23) (kmL p.1 p.2) (kone p) from rfl]
  refine kfold_congr fun q hq => ?_
  have hb := kmL_bars hB q hq
  rcases mem_kmL hq with ⟨a, b, c⟩ | ⟨a, b, c⟩
  · exact kpF_stable 23 24 q hb (by omega) (by omega)
  · exact kpF_stable 23 24 q hb (by omega) (by omega)
theorem kpK_11 : kpK (1, 1) = 1 := by
  rw [kpK_eq (p := (1, 1)) (by simp [barB])]
  simp [kmL, lnN, lnL, kfold, kone]

theorem colL_at (x : Int) : ∀ (k b : Nat) (h : b < k), (colL x k)[b]? = some (x, (b : Int) + 1)
  | 0, b, h => by omega
  | k + 1, b, h => by
    simp only [colL]
    by_cases e : b < k
    · rw [List.getElem?_append_left (by rw [length_colL]; exact e)]
      exact colL_at x k b e
    · obtain rfl : b = k := by omega
      rw [List.getElem?_append_right (by rw [length_colL]; exact Nat.le_refl _), length_colL]
      simp
theorem gridL_at (Y : Nat) : ∀ (t a b : Nat) (ha : a < t) (hb : b < Y), (gridL Y t)[a * Y + b]? = some ((a : Int) + 1, (b : Int) + 1)
  | 0, a, b, ha, _ => by omega
  | t + 1, a, b, ha, hb => by
    simp only [gridL]
    by_cases e : a < t
    · have hlt : a * Y + b < t * Y := by
        have : (a + 1) * Y ≤ t * Y := Nat.mul_le_mul_right Y (by omega)
        rw [Nat.succ_mul] at this
        omega
      rw [List.getElem?_append_left (by rw [length_gridL]; exact hlt)]
      exact gridL_at Y t a b e hb
    · obtain rfl : a = t := by omega
      rw [List.getElem?_append_right (by rw [length_gridL]; omega), length_gridL, Nat.add_sub_cancel_left]
      exact colL_at _ _ _ hb
/-- what can be kept of a bar comes before it -/
theorem grid_before {X Y k : Nat} (hk : k < (gridL Y X).length) {q : Int × Int} (hq : q ∈ kmL ((gridL Y X)[k]).1 ((gridL Y X)[k]).2) : q ∈ (gridL Y X).take k := by
  have hk2 := hk
  rw [length_gridL] at hk2
  have hY : 0 < Y := by rcases Nat.eq_zero_or_pos Y with h | h; · subst h; simp at hk2
                        · exact h
  have ha : k / Y < X := (Nat.div_lt_iff_lt_mul hY).2 hk2
  have hb : k % Y < Y := Nat.mod_lt _ hY
  have hkk : k / Y * Y + k % Y = k := by rw [Nat.mul_comm]; exact Nat.div_add_mod k Y
  have hat := gridL_at Y X (k / Y) (k % Y) ha hb
  rw [hkk, List.getElem?_eq_getElem hk] at hat
  simp only [Option.some.injEq] at hat
  rw [hat] at hq
  generalize k / Y = a at *
  generalize k % Y = b at *
  rw [List.mem_take_iff_getElem]
  have go : ∀ (a' b' : Nat), a' < X → b' < Y → a' * Y + b' < k → q = ((a' : Int) + 1, (b' : Int) + 1) → ∃ i, ∃ (h : i < min k (gridL Y X).length), (gridL Y X)[i] = q := by
    intro a' b' h1 h2 h3 h4
    refine ⟨a' * Y + b', by omega, ?_⟩
    have h5 := gridL_at Y X a' b' h1 h2
    rw [List.getElem?_eq_getElem (by omega)] at h5
    simp only [Option.some.injEq] at h5
    rw [h5, h4]
  obtain ⟨q1, q2⟩ := q
  rcases mem_kmL hq with ⟨h1, h2, h3⟩ | ⟨h1, h2, h3⟩
  · simp only at h1 h2 h3
    refine go (q1 - 1).toNat b (by omega) hb ?_ (Prod.ext (by simp; omega) (by simp; omega))
    have : ((q1 - 1).toNat + 1) * Y ≤ a * Y := Nat.mul_le_mul_right Y (by omega)
    rw [Nat.succ_mul] at this
    omega
  · simp only at h1 h2 h3
    refine go a (q2 - 1).toNat ha (by omega) (by omega) (Prod.ext (by simp; omega) (by simp; omega))
theorem grid_last {X Y : Nat} (hX : 1 ≤ X) (hY : 1 ≤ Y) : ((X : Int), (Y : Int)) ∈ gridL Y X := by
  have h := gridL_at Y X (X - 1) (Y - 1) (by omega) (by omega)
  have e : (((X - 1 : Nat) : Int) + 1, ((Y - 1 : Nat) : Int) + 1) = ((X : Int), (Y : Int)) := Prod.ext (by simp; omega) (by simp; omega)
  rw [e] at h
  exact List.mem_of_getElem? h

/-- what the call answers -/
def ckN (x y : Int) : Int := if barB x y = true ∧ kpK (x, y) ≤ 1000000000000000 then kpK (x, y) else 0
def ckB (x y : Int) : Bool := barB x y && decide (kpK (x, y) ≤ 1000000000000000)
end Go.Proofs.Ythemmckchmpicaa
