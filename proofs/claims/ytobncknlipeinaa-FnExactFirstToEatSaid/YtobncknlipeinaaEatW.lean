/-
  Words: the least costs to eat: the model's recurrence over all bars and the program's over lying bars have one solution. Nothing of the program is named here.
-/
import Derived.Test.YtobncknlipeinaaWords
namespace Go.Proofs.Ytobncknlipeinaa
open Go.RowKit
set_option linter.unusedVariables false

/-- v is the least number of S, or -1 if S is empty -/
def IsMin (S : Int → Prop) (v : Int) : Prop := (v = -1 ∧ ∀ x, ¬ S x) ∨ (0 ≤ v ∧ S v ∧ ∀ x, S x → v ≤ x)
def lessI (a b : Int) : Int := if a < 0 ∨ b < a then b else a
theorem IsMin.none {S : Int → Prop} (h : ∀ x, ¬ S x) : IsMin S (-1) := .inl ⟨rfl, h⟩
theorem IsMin.one (b : Int) (hb : 0 ≤ b) : IsMin (fun x => x = b) b := .inr ⟨hb, rfl, fun x hx => by omega⟩
theorem IsMin.congr {S T : Int → Prop} {v : Int} (h : IsMin S v) (e : ∀ x, S x ↔ T x) : IsMin T v := by
  rcases h with ⟨h1, h2⟩ | ⟨h1, h2, h3⟩
  · exact .inl ⟨h1, fun x hx => h2 x ((e x).2 hx)⟩
  · exact .inr ⟨h1, (e v).1 h2, fun x hx => h3 x ((e x).2 hx)⟩
theorem IsMin.step {S : Int → Prop} {v b : Int} (h : IsMin S v) (hb : 0 ≤ b) : IsMin (fun x => S x ∨ x = b) (lessI v b) := by
  unfold lessI
  rcases h with ⟨h1, h2⟩ | ⟨h1, h2, h3⟩
  · rw [if_pos (by omega)]
    exact .inr ⟨hb, .inr rfl, fun x hx => by rcases hx with hx | hx; exact absurd hx (h2 x); omega⟩
  · by_cases hl : b < v
    · rw [if_pos (.inr hl)]
      exact .inr ⟨hb, .inr rfl, fun x hx => by rcases hx with hx | hx; have := h3 x hx; omega; omega⟩
    · rw [if_neg (by omega)]
      exact .inr ⟨h1, .inl h2, fun x hx => by rcases hx with hx | hx; exact h3 x hx; omega⟩
theorem IsMin.min {S : Int → Prop} {v b : Int} (h : IsMin S v) (hv : 0 ≤ v) (hb : 0 ≤ b) : IsMin (fun x => S x ∨ x = b) (Min.min v b) := by
  have := h.step hb
  unfold lessI at this
  by_cases hl : b < v
  · rw [if_pos (.inr hl)] at this; rw [show Min.min v b = b by omega]; exact this
  · rw [if_neg (by omega)] at this; rw [show Min.min v b = v by omega]; exact this
theorem IsMin.le {S : Int → Prop} {v x : Int} (h : IsMin S v) (hx : S x) : 0 ≤ v ∧ v ≤ x := by
  rcases h with ⟨h1, h2⟩ | ⟨h1, h2, h3⟩
  · exact absurd hx (h2 x)
  · exact ⟨h1, h3 x hx⟩
theorem IsMin.one_or {S : Int → Prop} {u v m : Int} (h : IsMin S u) (hu : 0 ≤ u) (hm : u ≤ m) (k : IsMin (fun x => S x ∨ x = m) v) : u = v := by
  rcases h with ⟨h1, h2⟩ | ⟨h1, h2, h3⟩
  · omega
  · have q := k.le (.inl h2)
    rcases k with ⟨k1, k2⟩ | ⟨k1, k2, k3⟩
    · omega
    · rcases k2 with k2 | k2
      · have := h3 v k2; omega
      · omega

abbrev E3 := Nat → Nat → Nat → Int
/-- what it costs if this break is first -/
def CandD (M : E3) (a b s t : Nat) (x : Int) : Prop := ∃ k, k ≤ t * b ∧ k ≤ s ∧ s - k ≤ (a - t) * b ∧ x = ((b * b : Nat) : Int) + M t b k + M (a - t) b (s - k)
def CandA (M : E3) (a b s t : Nat) (x : Int) : Prop := ∃ k, k ≤ a * t ∧ k ≤ s ∧ s - k ≤ a * (b - t) ∧ x = ((a * a : Nat) : Int) + M a t k + M a (b - t) (s - k)
def CandM (M : E3) (a b s : Nat) (x : Int) : Prop := (∃ t, 1 ≤ t ∧ t < a ∧ CandD M a b s t x) ∨ ∃ t, 1 ≤ t ∧ t < b ∧ CandA M a b s t x
/-- the breaks not beyond the middle -/
def CandH (M : E3) (a b s : Nat) (x : Int) : Prop := (∃ t, 1 ≤ t ∧ t ≤ a / 2 ∧ CandD M a b s t x) ∨ ∃ t, 1 ≤ t ∧ t ≤ b / 2 ∧ CandA M a b s t x
structure RecM (M : E3) (W H : Nat) : Prop where
  zero : ∀ a b, 1 ≤ a → a ≤ W → 1 ≤ b → b ≤ H → M a b 0 = 0 ∧ M a b (a * b) = 0
  min : ∀ a b s, 1 ≤ a → a ≤ W → 1 ≤ b → b ≤ H → 0 < s → s < a * b → IsMin (CandM M a b s) (M a b s)
/-- a lying bar's costs -/
def lyN (N : E3) : E3 := fun a b s => N (max a b) (min a b) s
theorem lyN_turn (N : E3) (a b s : Nat) : lyN N a b s = lyN N b a s := by unfold lyN; rw [Nat.max_comm, Nat.min_comm]
structure RecN (N : E3) (W H : Nat) : Prop where
  zero : ∀ a b, b ≤ a → a ≤ W → 1 ≤ b → b ≤ H → N a b 0 = 0 ∧ N a b (a * b) = 0
  min : ∀ a b s, b ≤ a → a ≤ W → 1 ≤ b → b ≤ H → 0 < s → s < a * b → IsMin (fun x => CandH (lyN N) a b s x ∨ x = 20736) (N a b s)

theorem candD_mirror {M : E3} {a b s t : Nat} {x : Int} (h1 : 1 ≤ t) (h2 : t < a) (h : CandD M a b s t x) : CandD M a b s (a - t) x := by
  obtain ⟨k, k1, k2, k3, rfl⟩ := h
  refine ⟨s - k, k3, by omega, by rw [show a - (a - t) = t by omega, show s - (s - k) = k by omega]; exact k1, ?_⟩
  rw [show a - (a - t) = t by omega, show s - (s - k) = k by omega]
  omega
theorem candA_mirror {M : E3} {a b s t : Nat} {x : Int} (h1 : 1 ≤ t) (h2 : t < b) (h : CandA M a b s t x) : CandA M a b s (b - t) x := by
  obtain ⟨k, k1, k2, k3, rfl⟩ := h
  refine ⟨s - k, k3, by omega, by rw [show b - (b - t) = t by omega, show s - (s - k) = k by omega]; exact k1, ?_⟩
  rw [show b - (b - t) = t by omega, show s - (s - k) = k by omega]
  omega
theorem cand_half (M : E3) (a b s : Nat) (x : Int) : CandM M a b s x ↔ CandH M a b s x := by
  constructor
  · rintro (⟨t, t1, t2, h⟩ | ⟨t, t1, t2, h⟩)
    · by_cases ht : t ≤ a / 2
      · exact .inl ⟨t, t1, ht, h⟩
      · exact .inl ⟨a - t, by omega, by omega, candD_mirror t1 t2 h⟩
    · by_cases ht : t ≤ b / 2
      · exact .inr ⟨t, t1, ht, h⟩
      · exact .inr ⟨b - t, by omega, by omega, candA_mirror t1 t2 h⟩
  · rintro (⟨t, t1, t2, h⟩ | ⟨t, t1, t2, h⟩)
    · exact .inl ⟨t, t1, by omega, h⟩
    · exact .inr ⟨t, t1, by omega, h⟩
theorem candD_turn {N : E3} {a b s t : Nat} {x : Int} (h : CandD (lyN N) a b s t x) : CandA (lyN N) b a s t x := by
  obtain ⟨k, k1, k2, k3, rfl⟩ := h
  refine ⟨k, by rw [Nat.mul_comm]; exact k1, k2, by rw [Nat.mul_comm]; exact k3, ?_⟩
  rw [lyN_turn N t b k, lyN_turn N (a - t) b (s - k)]
theorem candA_turn {N : E3} {a b s t : Nat} {x : Int} (h : CandA (lyN N) a b s t x) : CandD (lyN N) b a s t x := by
  obtain ⟨k, k1, k2, k3, rfl⟩ := h
  refine ⟨k, by rw [Nat.mul_comm]; exact k1, k2, by rw [Nat.mul_comm]; exact k3, ?_⟩
  rw [lyN_turn N a t k, lyN_turn N a (b - t) (s - k)]
theorem cand_turn (N : E3) (a b s : Nat) (x : Int) : CandM (lyN N) a b s x ↔ CandM (lyN N) b a s x := by
  constructor
  · rintro (⟨t, t1, t2, h⟩ | ⟨t, t1, t2, h⟩)
    · exact .inr ⟨t, t1, t2, candD_turn h⟩
    · exact .inl ⟨t, t1, t2, candA_turn h⟩
  · rintro (⟨t, t1, t2, h⟩ | ⟨t, t1, t2, h⟩)
    · exact .inr ⟨t, t1, t2, candD_turn h⟩
    · exact .inl ⟨t, t1, t2, candA_turn h⟩
theorem cand_congr {M N : E3} {a b s : Nat} (h1 : ∀ a' k, 1 ≤ a' → a' < a → k ≤ a' * b → M a' b k = N a' b k) (h2 : ∀ b' k, 1 ≤ b' → b' < b → k ≤ a * b' → M a b' k = N a b' k) (x : Int) : CandM M a b s x ↔ CandM N a b s x := by
  constructor
  · rintro (⟨t, t1, t2, k, k1, k2, k3, e⟩ | ⟨t, t1, t2, k, k1, k2, k3, e⟩)
    · exact .inl ⟨t, t1, t2, k, k1, k2, k3, by rw [e, h1 t k t1 t2 k1, h1 (a - t) (s - k) (by omega) (by omega) k3]⟩
    · exact .inr ⟨t, t1, t2, k, k1, k2, k3, by rw [e, h2 t k t1 t2 k1, h2 (b - t) (s - k) (by omega) (by omega) k3]⟩
  · rintro (⟨t, t1, t2, k, k1, k2, k3, e⟩ | ⟨t, t1, t2, k, k1, k2, k3, e⟩)
    · exact .inl ⟨t, t1, t2, k, k1, k2, k3, by rw [e, h1 t k t1 t2 k1, h1 (a - t) (s - k) (by omega) (by omega) k3]⟩
    · exact .inr ⟨t, t1, t2, k, k1, k2, k3, by rw [e, h2 t k t1 t2 k1, h2 (b - t) (s - k) (by omega) (by omega) k3]⟩
theorem sq_le {b : Nat} (h : b ≤ 12) : b * b ≤ 144 := Nat.le_trans (Nat.mul_le_mul h h) (by omega)
/-- bounds -/
theorem eat_le {M : E3} {W H : Nat} (hM : RecM M W H) (hW : W ≤ 12) (hH : H ≤ 12) : ∀ (f a b s : Nat), a + b ≤ f → 1 ≤ a → a ≤ W → 1 ≤ b → b ≤ H → s ≤ a * b → 0 ≤ M a b s ∧ M a b s + 144 ≤ 144 * ((a * b : Nat) : Int)
  | 0, a, b, s, hf, ha, _, _, _, _ => by omega
  | f + 1, a, b, s, hf, ha, haW, hb, hbH, hs => by
    have hp : 1 * 1 ≤ a * b := Nat.mul_le_mul ha hb
    have hz := hM.zero a b ha haW hb hbH
    by_cases h0 : s = 0
    · subst h0; rw [hz.1]; omega
    · by_cases h1 : s = a * b
      · subst h1; rw [hz.2]; omega
      · have hm := hM.min a b s ha haW hb hbH (by omega) (by omega)
        by_cases ha2 : 2 ≤ a
        · obtain ⟨c, rfl⟩ : ∃ c, a = c + 1 := ⟨a - 1, by omega⟩
          have e : (c + 1) * b = c * b + b := Nat.succ_mul c b
          have q1 := eat_le hM hW hH f 1 b (min s b) (by omega) (by omega) (by omega) hb hbH (by omega)
          have q2 := eat_le hM hW hH f c b (s - min s b) (by omega) (by omega) (by omega) hb hbH (by omega)
          have hx := hm.le (.inl ⟨1, Nat.le_refl _, by omega, min s b, by omega, by omega, by rw [Nat.add_sub_cancel]; omega, rfl⟩)
          rw [Nat.add_sub_cancel] at hx
          have hsq := sq_le (show b ≤ 12 by omega)
          refine ⟨hx.1, ?_⟩
          rw [e]
          rw [Nat.one_mul] at q1
          have hxx := hx.2
          generalize M 1 b (min s b) = u at *
          generalize M c b (s - min s b) = v at *
          generalize M (c + 1) b s = y at *
          generalize b * b = bb at *
          generalize c * b = cb at *
          omega
        · obtain rfl : a = 1 := by omega
          rw [Nat.one_mul] at hp hs h1 hz
          obtain ⟨c, rfl⟩ : ∃ c, b = c + 1 := ⟨b - 1, by omega⟩
          have hc1 : 1 ≤ c := by omega
          have q1 := eat_le hM hW hH f 1 1 (min s 1) (by omega) (by omega) (by omega) (by omega) (by omega) (by omega)
          have q2 := eat_le hM hW hH f 1 c (s - min s 1) (by omega) (by omega) (by omega) hc1 (by omega) (by omega)
          have hx := hm.le (.inr ⟨1, Nat.le_refl _, by omega, min s 1, by omega, by omega, by rw [Nat.add_sub_cancel]; omega, rfl⟩)
          rw [Nat.add_sub_cancel] at hx
          refine ⟨hx.1, ?_⟩
          have hxx := hx.2
          simp only [Nat.one_mul, Nat.mul_one] at q1 q2 hxx ⊢
          generalize M 1 1 (min s 1) = u at *
          generalize M 1 c (s - min s 1) = v at *
          generalize M 1 (c + 1) s = y at *
          omega
/-- both tables agree -/
theorem eat_agree {M N : E3} {W H : Nat} (hM : RecM M W H) (hN : RecN N (max W H) (min W H)) (hW : W ≤ 12) (hH : H ≤ 12) : ∀ (f a b s : Nat), a + b ≤ f → 1 ≤ a → a ≤ W → 1 ≤ b → b ≤ H → s ≤ a * b → M a b s = lyN N a b s
  | 0, a, b, s, hf, ha, _, _, _, _ => by omega
  | f + 1, a, b, s, hf, ha, haW, hb, hbH, hs => by
    have hz := hM.zero a b ha haW hb hbH
    have e : max a b * min a b = a * b := by
      by_cases h : a ≤ b
      · rw [Nat.max_eq_right h, Nat.min_eq_left h, Nat.mul_comm]
      · rw [Nat.max_eq_left (by omega), Nat.min_eq_right (by omega)]
    have hz2 := hN.zero (max a b) (min a b) (by omega) (by omega) (by omega) (by omega)
    rw [e] at hz2
    by_cases h0 : s = 0
    · subst h0; rw [hz.1]; exact hz2.1.symm
    · by_cases h1 : s = a * b
      · subst h1; rw [hz.2]; exact hz2.2.symm
      · have hm := hM.min a b s ha haW hb hbH (by omega) (by omega)
        have hn := hN.min (max a b) (min a b) s (by omega) (by omega) (by omega) (by omega) (by omega) (by omega)
        have hc : ∀ x, CandM M a b s x ↔ CandH (lyN N) (max a b) (min a b) s x := by
          intro x
          rw [cand_congr (fun a' k q1 q2 q3 => eat_agree hM hN hW hH f a' b k (by omega) q1 (by omega) hb hbH q3) (fun b' k q1 q2 q3 => eat_agree hM hN hW hH f a b' k (by omega) ha haW q1 (by omega) q3), ← cand_half]
          by_cases h : a ≤ b
          · rw [Nat.max_eq_right h, Nat.min_eq_left h]; exact cand_turn N a b s x
          · rw [Nat.max_eq_left (by omega), Nat.min_eq_right (by omega)]
        have hle := eat_le hM hW hH (a + b) a b s (Nat.le_refl _) ha haW hb hbH hs
        have hab : a * b ≤ 12 * 12 := Nat.mul_le_mul (by omega) (by omega)
        exact (hm.congr hc).one_or hle.1 (by omega) hn

end Go.Proofs.Ytobncknlipeinaa
