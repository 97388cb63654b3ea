/-
  Words: heaps of chomps. Nothing of the program is named here but the list of all bites.
-/
import Derived.Test.YtghlgmbekgfmnaaMoves
import Derived.Test.YtghlgmbekgfmnaaListM
namespace Go.Proofs.Ytghlgmbekgfmnaa
open Go.RowKit
set_option linter.unusedVariables false

theorem nodup_len {α : Type} [DecidableEq α] : ∀ {S T : List α}, S.Nodup → (∀ x ∈ S, x ∈ T) → S.length ≤ T.length
  | [], T, _, _ => Nat.zero_le _
  | a :: S, T, h, hs => by
    have h1 := List.nodup_cons.1 h
    have h2 : ∀ x ∈ S, x ∈ T.erase a := fun x hx => (List.mem_erase_of_ne (fun e => by subst e; exact h1.1 hx)).2 (hs x (List.mem_cons_of_mem _ hx))
    have h3 := nodup_len h1.2 h2
    have h4 : a ∈ T := hs a (List.mem_cons_self ..)
    rw [List.length_erase_of_mem h4] at h3
    have := List.length_pos_of_mem h4
    simp only [List.length_cons]
    omega

/-- m is the least number that is not in a list -/
def IsMex (L : List Int) (m : Nat) : Prop := (m : Int) ∉ L ∧ ∀ j, j < m → (j : Int) ∈ L
theorem IsMex.le {L : List Int} {m : Nat} (h : ∀ j, j < m → (j : Int) ∈ L) : m ≤ L.length := by
  have hn : ((List.range m).map fun (j : Nat) => (j : Int)).Nodup := by
    rw [List.nodup_iff_pairwise_ne, List.pairwise_map]
    exact List.nodup_range.imp (fun h e => h (by omega))
  have := nodup_len hn (T := L) (fun x hx => by
    obtain ⟨j, hj, rfl⟩ := List.mem_map.1 hx
    exact h j (List.mem_range.1 hj))
  simpa using this
def mexF : Nat → Nat → List Int → Nat
  | 0, k, _ => k
  | f + 1, k, L => if (k : Int) ∈ L then mexF f (k + 1) L else k
def mexL (L : List Int) : Nat := mexF (L.length + 1) 0 L
theorem mexF_is {L : List Int} {m : Nat} (h : IsMex L m) : ∀ (f k : Nat), k ≤ m → m - k ≤ f → mexF f k L = m
  | 0, k, hk, hf => by have : k = m := by omega
                       exact this
  | f + 1, k, hk, hf => by
    unfold mexF
    by_cases e : k = m
    · subst e; rw [if_neg h.1]
    · rw [if_pos (h.2 k (by omega))]
      exact mexF_is h f (k + 1) (by omega) (by omega)
theorem mexL_is {L : List Int} {m : Nat} (h : IsMex L m) : mexL L = m := mexF_is h _ 0 (Nat.zero_le _) (by have := IsMex.le h.2; omega)
theorem mexF_le (L : List Int) : ∀ f k, mexF f k L ≤ k + f
  | 0, k => Nat.le_refl _
  | f + 1, k => by
    unfold mexF
    split
    · have := mexF_le L f (k + 1); omega
    · omega

theorem sum6 {l : List Int} (h : l.length ≤ 6) : l.sum = l.getD 0 0 + l.getD 1 0 + l.getD 2 0 + l.getD 3 0 + l.getD 4 0 + l.getD 5 0 := by
  match l, h with
  | [], _ => simp
  | [a], _ => simp
  | [a, b], _ => simp
  | [a, b, c], _ => simp <;> omega
  | [a, b, c, d], _ => simp <;> omega
  | [a, b, c, d, e], _ => simp <;> omega
  | [a, b, c, d, e, f], _ => simp <;> omega
  | a :: b :: c :: d :: e :: f :: g :: r, h => simp at h <;> omega
theorem eat_less {f : Nat → Int} (hf : Fall f) {x : Int} {y : Nat} (hy : y < 6) (hx : 0 ≤ x) (hlt : x < f y) :
    eatF f x y 0 + eatF f x y 1 + eatF f x y 2 + eatF f x y 3 + eatF f x y 4 + eatF f x y 5 < f 0 + f 1 + f 2 + f 3 + f 4 + f 5 := by
  have key : ∀ j, eatF f x y j ≤ f j := fun j => by
    unfold eatF
    split
    · split <;> omega
    · exact Int.le_refl _
  have hyy : eatF f x y y = x := by unfold eatF; rw [if_pos (Nat.le_refl _), if_pos hlt]
  have k0 := key 0; have k1 := key 1; have k2 := key 2; have k3 := key 3; have k4 := key 4; have k5 := key 5
  rcases (show y = 0 ∨ y = 1 ∨ y = 2 ∨ y = 3 ∨ y = 4 ∨ y = 5 by omega) with rfl | rfl | rfl | rfl | rfl | rfl <;> omega
theorem biteL_sum {l : List Int} (hl : ChOK l) {x y : Int} (h : canC l x y = true) : (biteL l x y).sum < l.sum := by
  obtain ⟨h1, h2, h3, h4, h5⟩ := canC_true h
  have e := eat_less hl.fall (x := x) (y := y.toNat) (by omega) h1 h5
  rw [sum6 (biteL_ok hl h).2.1, sum6 hl.2.1]
  simp only [biteL_at hl h]
  exact e
theorem biteL_key {l : List Int} (hl : ChOK l) {x y : Int} (h : canC l x y = true) : keyI (biteL l x y) < keyI l := by
  obtain ⟨h1, h2, h3, h4, h5⟩ := canC_true h
  unfold keyI
  simp only [biteL_at hl h]
  have b := fun j => hl.le6 j
  have c := fun j => hl.ge0 j
  have b0 := b 0; have b1 := b 1; have b2 := b 2; have b3 := b 3; have b4 := b 4; have b5 := b 5
  have c0 := c 0; have c1 := c 1; have c2 := c 2; have c3 := c 3; have c4 := c 4; have c5 := c 5
  obtain ⟨q, hq⟩ : ∃ q : Nat, y.toNat = q := ⟨_, rfl⟩
  rw [hq] at h5 ⊢
  have hq6 : q < 6 := by omega
  generalize hf : (fun j => l.getD j 0) = f at *
  have e : ∀ j, l.getD j 0 = f j := fun j => by rw [← hf]
  simp only [e] at *
  have lo : ∀ j, j < q → eatF f x q j = f j := fun j hj => by unfold eatF; rw [if_neg (by omega)]
  have at_ : eatF f x q q = x := by unfold eatF; rw [if_pos (Nat.le_refl _), if_pos h5]
  have hi : ∀ j, 0 ≤ eatF f x q j ∧ eatF f x q j ≤ 6 := fun j => by
    have := b j; have := c j
    unfold eatF; split <;> (try split) <;> omega
  have i0 := hi 0; have i1 := hi 1; have i2 := hi 2; have i3 := hi 3; have i4 := hi 4; have i5 := hi 5
  rcases (show q = 0 ∨ q = 1 ∨ q = 2 ∨ q = 3 ∨ q = 4 ∨ q = 5 by omega) with rfl | rfl | rfl | rfl | rfl | rfl
  · omega
  · have l0 := lo 0 (by omega); omega
  · have l0 := lo 0 (by omega); have l1 := lo 1 (by omega); omega
  · have l0 := lo 0 (by omega); have l1 := lo 1 (by omega); have l2 := lo 2 (by omega); omega
  · have l0 := lo 0 (by omega); have l1 := lo 1 (by omega); have l2 := lo 2 (by omega); have l3 := lo 3 (by omega); omega
  · have l0 := lo 0 (by omega); have l1 := lo 1 (by omega); have l2 := lo 2 (by omega); have l3 := lo 3 (by omega); have l4 := lo 4 (by omega); omega

theorem mem_rowM {y k : Nat} {p : Int × Int} : p ∈ rowM y k ↔ ∃ x : Nat, x < k ∧ 0 < x + y ∧ p = ((x : Int), (y : Int)) := by
  simp only [rowM, List.mem_map, List.mem_filter, List.mem_range, decide_eq_true_eq]
  constructor
  · rintro ⟨x, ⟨h1, h2⟩, rfl⟩; exact ⟨x, h1, h2, rfl⟩
  · rintro ⟨x, h1, h2, rfl⟩; exact ⟨x, ⟨h1, h2⟩, rfl⟩
/-- all bites of a chomp -/
def mvL (l : List Int) : List (Int × Int) := mv (fun j => l.getD j 0) 6
theorem mvL_can {l : List Int} (hl : ChOK l) {p : Int × Int} (h : p ∈ mvL l) : canC l p.1 p.2 = true := by
  simp only [mvL, mv, List.mem_flatMap, List.mem_range] at h
  obtain ⟨y, hy, hp⟩ := h
  obtain ⟨x, h1, h2, rfl⟩ := mem_rowM.1 hp
  have h3 := hl.ge0 y
  simp only [canC, biteB, decide_eq_true_eq, Int.toNat_natCast]
  omega
/-- heaps, as far as s squares -/
def grF : Nat → List Int → Nat
  | 0, _ => 0
  | s + 1, l => mexL ((mvL l).map fun p => ((grF s (biteL l p.1 p.2) : Nat) : Int))
theorem grF_more : ∀ (s : Nat) (l : List Int), ChOK l → l.sum ≤ s → ∀ t, s ≤ t → grF t l = grF s l
  | 0, l, hl, hs, t, _ => by have := (sumI_36 hl).1; omega
  | s + 1, l, hl, hs, t, ht => by
    obtain ⟨t, rfl⟩ : ∃ u, t = u + 1 := ⟨t - 1, by omega⟩
    unfold grF
    congr 1
    apply List.map_congr_left
    intro p hp
    have hc := mvL_can hl hp
    have := biteL_sum hl hc
    rw [grF_more s _ (biteL_ok hl hc) (by omega) t (by omega)]
/-- the heap of a chomp -/
def gr (l : List Int) : Nat := grF 36 l
def grL (l : List Int) : List Int := (mvL l).map fun p => ((gr (biteL l p.1 p.2) : Nat) : Int)
theorem gr_step {l : List Int} (hl : ChOK l) : gr l = mexL (grL l) := by
  have h36 := (sumI_36 hl).2
  show grF 36 l = _
  rw [show grF 36 l = grF (36 + 1) l from (grF_more 36 l hl (by omega) 37 (by omega)).symm]
  rfl
theorem gr_is {l : List Int} (hl : ChOK l) {m : Nat} (h : IsMex (grL l) m) : gr l = m := (gr_step hl).trans (mexL_is h)
theorem gr_le {l : List Int} (hl : ChOK l) : gr l ≤ 36 := by
  rw [gr_step hl]
  have h1 := mexF_le (grL l) ((grL l).length + 1) 0
  have h2 : (grL l).length ≤ 35 := by
    unfold grL mvL
    rw [List.length_map]
    have h5 : ∀ j, (mv (fun j => l.getD j 0) (1 + j)).length ≤ 5 + 6 * j := fun j => by
      induction j with
      | zero =>
        rw [show 1 + 0 = 0 + 1 from rfl, mv_succ]
        simp only [mv, List.range_zero, List.flatMap_nil, List.nil_append]
        obtain ⟨q, hq⟩ : ∃ q, (l.getD 0 0).toNat = q := ⟨_, rfl⟩
        have := hl.le6 0
        simp only [hq]
        cases q with
        | zero => simp [rowM]
        | succ q =>
          have hh : ∀ q, (rowM 0 (q + 1)).length ≤ q := fun q => by
            induction q with
            | zero => simp [rowM]
            | succ q ih => rw [rowM_succ, List.length_append]; split <;> simp <;> omega
          have := hh q
          omega
      | succ j ih =>
        rw [show 1 + (j + 1) = 1 + j + 1 by omega, mv_succ, List.length_append]
        have a1 := length_rowM (1 + j) (l.getD (1 + j) 0).toNat
        have b1 := hl.le6 (1 + j)
        omega
    have := h5 5
    omega
  unfold mexL
  omega

end Go.Proofs.Ytghlgmbekgfmnaa
