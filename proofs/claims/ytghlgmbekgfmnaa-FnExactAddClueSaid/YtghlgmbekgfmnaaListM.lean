/-
  Words: which chomps are in the list of all. Nothing of the program is named here.
-/
import Derived.Test.YtghlgmbekgfmnaaListW
namespace Go.Proofs.Ytghlgmbekgfmnaa
open Go.RowKit
set_option linter.unusedVariables false

/-- rows that go on below w -/
def Desc : Int → List Int → Prop
  | _, [] => True
  | w, a :: r => 1 ≤ a ∧ a ≤ w ∧ Desc a r
theorem mem_chs : ∀ (h w : Nat) (b l : List Int), l ∈ chs h w b ↔ ∃ r, r ≠ [] ∧ l = b ++ r ∧ r.length ≤ h ∧ Desc w r
  | 0, w, b, l => by
    constructor
    · intro h; simp [chs] at h
    · rintro ⟨r, h1, h2, h3, h4⟩; exact absurd (List.length_eq_zero_iff.1 (by omega)) h1
  | h + 1, w, b, l => by
    simp only [chs, List.mem_flatMap, List.mem_range, List.mem_cons]
    constructor
    · rintro ⟨i, hi, rfl | hm⟩
      · exact ⟨[(i : Int) + 1], by simp, rfl, by simp, by simp only [Desc, and_true]; omega⟩
      · obtain ⟨r, h1, rfl, h3, h4⟩ := (mem_chs h (i + 1) _ l).1 hm
        exact ⟨((i : Int) + 1) :: r, by simp, by simp, by simpa using h3, by refine ⟨by omega, by omega, ?_⟩; simpa using h4⟩
    · rintro ⟨r, h1, rfl, h3, h4⟩
      cases r with
      | nil => exact absurd rfl h1
      | cons a r =>
        obtain ⟨h5, h6, h7⟩ := h4
        refine ⟨(a - 1).toNat, by omega, ?_⟩
        have e : (((a - 1).toNat : Nat) : Int) + 1 = a := by omega
        rw [e]
        by_cases hr : r = []
        · subst hr; exact .inl rfl
        · refine .inr ((mem_chs h _ _ _).2 ⟨r, hr, by simp, by simpa using h3, ?_⟩)
          have e2 : (((a - 1).toNat + 1 : Nat) : Int) = a := by omega
          rw [e2]
          exact h7
theorem desc_step {w : Int} {l : List Int} (h : Desc w l) : ∀ k, k < l.length → 1 ≤ l.getD k 0 ∧ l.getD k 0 ≤ (if k = 0 then w else l.getD (k - 1) 0) := by
  induction l generalizing w with
  | nil => intro k hk; simp at hk
  | cons a r ih =>
    obtain ⟨h1, h2, h3⟩ := h
    intro k hk
    cases k with
    | zero => simp; omega
    | succ k =>
      have := ih h3 k (by simpa using hk)
      rw [if_neg (by omega)]
      simp only [List.getD_cons_succ, Nat.add_sub_cancel]
      cases k with
      | zero => simpa using this
      | succ k => simpa using this
theorem desc_of {w : Int} {l : List Int} (h : ∀ k, k < l.length → 1 ≤ l.getD k 0 ∧ l.getD k 0 ≤ (if k = 0 then w else l.getD (k - 1) 0)) : Desc w l := by
  induction l generalizing w with
  | nil => trivial
  | cons a r ih =>
    have h0 := h 0 (by simp)
    simp at h0
    refine ⟨h0.1, h0.2, ih fun k hk => ?_⟩
    have := h (k + 1) (by simpa using hk)
    rw [if_neg (by omega)] at this
    simp only [List.getD_cons_succ, Nat.add_sub_cancel] at this
    cases k with
    | zero => simpa using this
    | succ k => simpa using this
theorem mem_all {H W : Nat} (hH : H ≤ 6) (hW : W ≤ 6) {l : List Int} : l ∈ chs H W [] ↔ ChOK l ∧ l.length ≤ H ∧ l.getD 0 0 ≤ W := by
  rw [mem_chs]
  constructor
  · rintro ⟨r, h1, h2, h3, h4⟩
    simp at h2
    subst h2
    have hp : 0 < l.length := List.length_pos_iff.2 h1
    have hs := desc_step h4
    refine ⟨⟨hp, by omega, fun k hk => ⟨(hs k hk).1, ?_⟩⟩, h3, by have := (hs 0 hp).2; simpa using this⟩
    have := (hs k hk).2
    unfold lim
    split
    · rename_i e; subst e; simp at this ⊢; omega
    · rename_i e; rwa [if_neg e] at this
  · rintro ⟨h1, h2, h3⟩
    refine ⟨l, fun e => by have := h1.1; rw [e] at this; simp at this, by simp, h2, desc_of fun k hk => ⟨h1.ge1 hk, ?_⟩⟩
    split
    · rename_i e; subst e; exact h3
    · rename_i e
      have := (h1.2.2 k hk).2
      unfold lim at this
      rwa [if_neg e] at this

/-- the number of a chomp -/
def keyI (l : List Int) : Int := ((((l.getD 0 0 * 7 + l.getD 1 0) * 7 + l.getD 2 0) * 7 + l.getD 3 0) * 7 + l.getD 4 0) * 7 + l.getD 5 0
def incB : List Int → Bool
  | [] => true
  | [_] => true
  | a :: b :: r => decide (a < b) && incB (b :: r)
theorem inc_all : ∀ H, H < 7 → ∀ W, W < 7 → incB ((chs H W []).map keyI) = true := by decide +kernel
theorem incB_pair {l : List Int} (h : incB l = true) : l.Pairwise (· < ·) := by
  induction l with
  | nil => exact List.Pairwise.nil
  | cons a r ih =>
    cases r with
    | nil => exact List.pairwise_singleton _ _
    | cons b r =>
      simp only [incB, Bool.and_eq_true, decide_eq_true_eq] at h
      have hr := ih h.2
      refine List.Pairwise.cons (fun x hx => ?_) hr
      rcases List.mem_cons.1 hx with rfl | hx
      · exact h.1
      · have := List.rel_of_pairwise_cons hr hx
        omega
theorem keys_sorted {H W : Nat} (hH : H ≤ 6) (hW : W ≤ 6) : (chs H W []).Pairwise fun a b => keyI a < keyI b :=
  List.pairwise_map.1 (incB_pair (inc_all H (by omega) W (by omega)))

end Go.Proofs.Ytghlgmbekgfmnaa
