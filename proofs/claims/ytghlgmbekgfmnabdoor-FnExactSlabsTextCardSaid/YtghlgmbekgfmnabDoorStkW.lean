/-
  The mathematics of stacks of slabs: what a stack is, all stacks in order, the first longest, the heaviest, and what the model's room says. Nothing of the program is named here.
-/
import Derived.Test.YtghlgmbekgfmnabDoorWt
namespace Go.Proofs.YtghlgmbekgfmnabDoor
open Go.RowKit
set_option linter.unusedVariables false
set_option linter.unusedSimpArgs false

abbrev Sb := Int × Int
def wOf (S : List Sb) (k : Int) : Int := (S.getD k.toNat (0, 0)).1
def bOf (S : List Sb) (k : Int) : Int := (S.getD k.toNat (0, 0)).2
def wsum (S : List Sb) (o : List Int) : Int := (o.map (wOf S)).sum
def inR (S : List Sb) (k : Int) : Bool := decide (0 ≤ k ∧ k < S.length)
/-- the list is a stack, told from above on -/
def stk (S : List Sb) : List Int → Bool
  | [] => true
  | k :: r => stk S r && (inR S k && (!r.contains k && decide (wsum S r ≤ bOf S k)))
theorem stk_cons {S : List Sb} {k : Int} {r : List Int} : stk S (k :: r) = true ↔ stk S r = true ∧ (0 ≤ k ∧ k < S.length) ∧ k ∉ r ∧ wsum S r ≤ bOf S k := by
  simp [stk, inR, and_assoc]
theorem stk_suffix {S : List Sb} : ∀ (a b : List Int), stk S (a ++ b) = true → stk S b = true := by
  intro a
  induction a with
  | nil => intro b h; exact h
  | cons k a ih => intro b h; rw [List.cons_append, stk_cons] at h; exact ih b h.1
theorem stk_in {S : List Sb} {o : List Int} (h : stk S o = true) : ∀ z ∈ o, 0 ≤ z ∧ z < S.length := by
  induction o with
  | nil => intro z hz; simp at hz
  | cons k r ih =>
    rw [stk_cons] at h
    intro z hz
    rcases List.mem_cons.1 hz with rfl | hz
    · exact h.2.1
    · exact ih h.1 z hz
theorem stk_nodup {S : List Sb} {o : List Int} (h : stk S o = true) : o.Nodup := by
  induction o with
  | nil => simp
  | cons k r ih => rw [stk_cons] at h; exact List.nodup_cons.2 ⟨h.2.2.1, ih h.1⟩
/-- different numbers below n are n at most -/
theorem len_le_of_nodup : ∀ (n : Nat) (l : List Int), l.Nodup → (∀ z ∈ l, 0 ≤ z ∧ z < n) → l.length ≤ n := by
  intro n
  induction n with
  | zero =>
    intro l _ h
    cases l with
    | nil => simp
    | cons a r => have := h a (by simp); omega
  | succ n ih =>
    intro l hn h
    have h2 := ih (l.erase (n : Int)) (hn.erase _) (fun z hz => by
      have m := (hn.mem_erase_iff).1 hz
      have := h z m.2
      omega)
    by_cases hm : (n : Int) ∈ l
    · rw [List.length_erase_of_mem hm] at h2; omega
    · rw [List.erase_of_not_mem hm] at h2; omega
theorem wsum_append (S : List Sb) (a b : List Int) : wsum S (a ++ b) = wsum S a + wsum S b := by simp [wsum]
theorem wsum_cons (S : List Sb) (k : Int) (b : List Int) : wsum S (k :: b) = wOf S k + wsum S b := by simp [wsum]
theorem wsum_one (S : List Sb) (k : Int) : wsum S [k] = wOf S k := by simp [wsum]
def slOk (p : Sb) : Bool := inB p.1 1 1000 && inB p.2 1 1000
def slB (S : List Sb) : Bool := inB S.length 1 7 && S.all slOk
theorem slB_at {S : List Sb} (h : slB S = true) {k : Nat} (hk : k < S.length) : 1 ≤ (S[k]).1 ∧ (S[k]).1 ≤ 1000 ∧ 1 ≤ (S[k]).2 ∧ (S[k]).2 ≤ 1000 := by
  simp only [slB, Bool.and_eq_true, List.all_eq_true] at h
  have h2 := h.2 _ (List.getElem_mem hk)
  simp only [slOk, Bool.and_eq_true] at h2
  have a := inB_trueW h2.1
  have b := inB_trueW h2.2
  omega
theorem slB_len {S : List Sb} (h : slB S = true) : 1 ≤ S.length ∧ S.length ≤ 7 := by
  simp only [slB, Bool.and_eq_true] at h
  have := inB_trueW h.1
  omega
theorem wOf_in {S : List Sb} (h : slB S = true) {k : Int} (hk : 0 ≤ k ∧ k < S.length) : 1 ≤ wOf S k ∧ wOf S k ≤ 1000 ∧ 1 ≤ bOf S k ∧ bOf S k ≤ 1000 := by
  have h1 := slB_at h (k := k.toNat) (by omega)
  unfold wOf bOf
  rw [List.getD_eq_getElem?_getD, List.getElem?_eq_getElem (show k.toNat < S.length by omega)]
  exact h1
theorem wsum_in {S : List Sb} (h : slB S = true) {o : List Int} (ho : ∀ z ∈ o, 0 ≤ z ∧ z < S.length) : 0 ≤ wsum S o ∧ wsum S o ≤ 1000 * o.length := by
  induction o with
  | nil => simp [wsum]
  | cons k r ih =>
    have h1 := wOf_in h (ho k (by simp))
    have h2 := ih (fun z hz => ho z (by simp [hz]))
    rw [wsum_cons, List.length_cons]
    omega
/-- whether a stack bears so much more on its top -/
def fits (S : List Sb) : List Int → Int → Prop
  | [], _ => True
  | k :: r, x => wsum S r + x ≤ bOf S k ∧ fits S r x
theorem fits_snoc (S : List Sb) (k x : Int) : ∀ b : List Int, fits S (b ++ [k]) x ↔ fits S b (wOf S k + x) ∧ x ≤ bOf S k := by
  intro b
  induction b with
  | nil => simp [fits, wsum]
  | cons j r ih =>
    simp only [List.cons_append, fits, ih, wsum_append, wsum_one]
    constructor
    · rintro ⟨h1, h2, h3⟩; exact ⟨⟨by omega, h2⟩, h3⟩
    · rintro ⟨⟨h1, h2⟩, h3⟩; exact ⟨by omega, h2, h3⟩
theorem stk_snoc (S : List Sb) (k : Int) (hb0 : 0 ≤ bOf S k) (hw0 : 0 ≤ wOf S k) : ∀ b : List Int, stk S (b ++ [k]) = true ↔ stk S b = true ∧ (0 ≤ k ∧ k < S.length) ∧ k ∉ b ∧ fits S b (wOf S k) := by
  intro b
  induction b with
  | nil => rw [List.nil_append, stk_cons]; simp [stk, fits, wsum]; intro _ _; exact hb0
  | cons j r ih =>
    rw [List.cons_append, stk_cons, ih, stk_cons]
    simp only [fits, wsum_append, wsum_one, List.mem_append, List.mem_cons, List.not_mem_nil, or_false, not_or]
    constructor
    · rintro ⟨⟨h1, h2, h3, h4⟩, h5, ⟨h6, h7⟩, h8⟩
      exact ⟨⟨h1, h5, h6, by have := h8; omega⟩, h2, ⟨fun e => h7 e.symm, h3⟩, h8, h4⟩
    · rintro ⟨⟨h1, h5, h6, _⟩, h2, ⟨h7, h3⟩, h8, h4⟩
      exact ⟨⟨h1, h2, h3, h4⟩, h5, ⟨h6, fun e => h7 e.symm⟩, h8⟩
/-- all stacks that go on from one upwards, in order -/
def stkD (S : List Sb) : Nat → List Int → List (List Int)
  | 0, s => [s]
  | f + 1, s => s :: (List.range S.length).flatMap fun (k : Nat) => if stk S (s ++ [(k : Int)]) then stkD S f (s ++ [(k : Int)]) else []
/-- the first longest of some lists and one ahead of them -/
def fl (a : List Int) (L : List (List Int)) : List Int := L.foldl (fun a s => if a.length < s.length then s else a) a
theorem fl_append (a : List Int) (L M : List (List Int)) : fl a (L ++ M) = fl (fl a L) M := by simp [fl, List.foldl_append]
theorem fl_cons (a c : List Int) (L : List (List Int)) : fl a (c :: L) = fl (if a.length < c.length then c else a) L := rfl
theorem fl_split : ∀ (L : List (List Int)) (a c : List Int), fl a (c :: L) = if a.length < (fl c L).length then fl c L else a := by
  intro L
  induction L with
  | nil => intro a c; rfl
  | cons d L ih =>
    intro a c
    rw [fl_cons, ih, ih c d]
    by_cases h1 : a.length < c.length
    · rw [if_pos h1]
      by_cases h2 : c.length < (fl d L).length
      · rw [if_pos h2, if_pos (by omega)]
      · rw [if_neg h2, if_pos h1]
    · rw [if_neg h1]
      by_cases h2 : c.length < (fl d L).length
      · rw [if_pos h2]
      · rw [if_neg h2, if_neg h1, if_neg (by omega)]
def hv (S : List Sb) (m : Int) (L : List (List Int)) : Int := L.foldl (fun m s => max m (wsum S s)) m
theorem hv_append (S : List Sb) (m : Int) (L M : List (List Int)) : hv S m (L ++ M) = hv S (hv S m L) M := by simp [hv, List.foldl_append]
theorem hv_cons (S : List Sb) (m : Int) (s : List Int) (L : List (List Int)) : hv S m (s :: L) = hv S (max m (wsum S s)) L := rfl
theorem hv_max (S : List Sb) : ∀ (L : List (List Int)) (a b : Int), hv S (max a b) L = max a (hv S b L) := by
  intro L
  induction L with
  | nil => intro a b; rfl
  | cons s L ih => intro a b; rw [hv_cons, hv_cons, Int.max_assoc, ih]
/-- the room of a stack tells what it bears -/
def roomI (S : List Sb) (b : List Int) (room : Int) : Prop := ∀ x, 0 ≤ x → x ≤ 7000 - wsum S b → (fits S b x ↔ x ≤ room)
theorem roomI_nil (S : List Sb) : roomI S [] 7000 := fun x _ h => by simp [fits, wsum] at *; exact h
theorem roomI_snoc {S : List Sb} {b : List Int} {room k : Int} (h : roomI S b room) (hk : 0 ≤ wOf S k) : roomI S (b ++ [k]) (min (room - wOf S k) (bOf S k)) := by
  intro x h0 hx
  rw [fits_snoc]
  rw [wsum_append, wsum_one] at hx
  rw [h (wOf S k + x) (by omega) (by omega)]
  omega
theorem stk_next {S : List Sb} (hS : slB S = true) {b : List Int} {room k : Int} (hb : stk S b = true) (h : roomI S b room) (hk : 0 ≤ k ∧ k < S.length) :
    stk S (b ++ [k]) = true ↔ k ∉ b ∧ wOf S k ≤ room := by
  have w1 := wOf_in hS hk
  rw [stk_snoc S k (by omega) (by omega)]
  constructor
  · rintro ⟨_, _, h3, h4⟩
    refine ⟨h3, ?_⟩
    have hnd : (k :: b).Nodup := List.nodup_cons.2 ⟨h3, stk_nodup hb⟩
    have hl := len_le_of_nodup S.length (k :: b) hnd (fun z hz => by
      rcases List.mem_cons.1 hz with rfl | hz
      · exact hk
      · exact stk_in hb z hz)
    have hw := wsum_in hS (stk_in hb)
    have hs := (slB_len hS).2
    rw [List.length_cons] at hl
    exact (h (wOf S k) (by omega) (by omega)).1 h4
  · rintro ⟨h3, h4⟩
    refine ⟨hb, hk, h3, ?_⟩
    have hnd : (k :: b).Nodup := List.nodup_cons.2 ⟨h3, stk_nodup hb⟩
    have hl := len_le_of_nodup S.length (k :: b) hnd (fun z hz => by
      rcases List.mem_cons.1 hz with rfl | hz
      · exact hk
      · exact stk_in hb z hz)
    have hw := wsum_in hS (stk_in hb)
    have hs := (slB_len hS).2
    rw [List.length_cons] at hl
    exact (h (wOf S k) (by omega) (by omega)).2 h4
theorem stk_len {S : List Sb} {b : List Int} (hb : stk S b = true) : b.length ≤ S.length := len_le_of_nodup S.length b (stk_nodup hb) (stk_in hb)
/-- with no fuel left there is no higher stack -/
theorem stk_full {S : List Sb} {b : List Int} {k : Int} (h : S.length ≤ b.length) : stk S (b ++ [k]) = false := by
  cases e : stk S (b ++ [k])
  · rfl
  · have := stk_len e
    rw [List.length_append] at this
    simp at this
    omega
/-- what goes on from a stack, its first so many slabs tried -/
def stkK (S : List Sb) (f : Nat) (s : List Int) (k : Nat) : List (List Int) := s :: (List.range k).flatMap fun (k : Nat) => if stk S (s ++ [(k : Int)]) then stkD S f (s ++ [(k : Int)]) else []
theorem stkK_zero (S : List Sb) (f : Nat) (s : List Int) : stkK S f s 0 = [s] := rfl
theorem stkK_succ (S : List Sb) (f : Nat) (s : List Int) (k : Nat) : stkK S f s (k + 1) = stkK S f s k ++ (if stk S (s ++ [(k : Int)]) then stkD S f (s ++ [(k : Int)]) else []) := by
  simp [stkK, List.range_succ]
theorem stkK_all (S : List Sb) (f : Nat) (s : List Int) : stkK S f s S.length = stkD S (f + 1) s := rfl
theorem stkK_full {S : List Sb} {s : List Int} (h : S.length ≤ s.length) (f : Nat) : ∀ k, stkK S f s k = [s] := by
  intro k
  induction k with
  | zero => rfl
  | succ k ih => rw [stkK_succ, ih, stk_full h]; simp
theorem stkD_head (S : List Sb) (f : Nat) (s : List Int) : ∃ T, stkD S f s = s :: T := by
  cases f with
  | zero => exact ⟨[], rfl⟩
  | succ f => exact ⟨_, rfl⟩
def cntK : Nat → Nat
  | 0 => 1
  | f + 1 => 1 + 7 * cntK f
theorem stkD_len (S : List Sb) (hS : S.length ≤ 7) : ∀ (f : Nat) (s : List Int), (stkD S f s).length ≤ cntK f := by
  intro f
  induction f with
  | zero => intro s; simp [stkD, cntK]
  | succ f ih =>
    intro s
    have h : ∀ k, (stkK S f s k).length ≤ 1 + k * cntK f := by
      intro k
      induction k with
      | zero => simp [stkK_zero]
      | succ k ihk =>
        rw [stkK_succ, List.length_append, Nat.succ_mul]
        have := ih (s ++ [(k : Int)])
        split
        · omega
        · simp; omega
    have h2 := h S.length
    rw [stkK_all] at h2
    have h3 : S.length * cntK f ≤ 7 * cntK f := Nat.mul_le_mul_right _ hS
    simp only [cntK]
    omega

end Go.Proofs.YtghlgmbekgfmnabDoor
