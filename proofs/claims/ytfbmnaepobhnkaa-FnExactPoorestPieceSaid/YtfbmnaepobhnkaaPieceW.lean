/-
  Words: the most nuts that the poorest of so many pieces can have: the model's recursion and the program's table agree.
-/
import Derived.Test.YtfbmnaepobhnkaaPartO
namespace Go.Proofs.Ytfbmnaepobhnkaa
open Go.RowKit
set_option linter.unusedVariables false

abbrev P5 := Nat → Nat → Nat → Nat → Nat → Int
def downP (g : P5) (x y a b i j : Nat) : Nat → Int → Int
  | 0, m => m
  | k + 1, m => max (downP g x y a b i j k m) (min (g x y (k + 1) b i) (g (x + (k + 1)) y (a - (k + 1)) b j))
def acrP (g : P5) (x y a b i j : Nat) : Nat → Int → Int
  | 0, m => m
  | k + 1, m => max (acrP g x y a b i j k m) (min (g x y a (k + 1) i) (g x (y + (k + 1)) a (b - (k + 1)) j))
def someP (g : P5) (x y a b s : Nat) : Nat → Int → Int
  | 0, m => m
  | k + 1, m => acrP g x y a b (k + 1) (s - (k + 1)) (b - 1) (downP g x y a b (k + 1) (s - (k + 1)) (a - 1) (someP g x y a b s k m))
def stepP (ss : List ByteArray) (g : P5) : P5 := fun x y a b s => if a * b < s then -1 else if s = 1 then ((rect ss x y a b : Nat) : Int) else someP g x y a b s (s - 1) (-1)
def pcS (ss : List ByteArray) : Nat → P5
  | 0 => fun _ _ _ _ _ => -1
  | f + 1 => stepP ss (pcS ss f)
def pc (ss : List ByteArray) : P5 := fun x y a b s => pcS ss s x y a b s
theorem downP_congr {g h : P5} {x y a b i j : Nat} (ei : ∀ x y a b, g x y a b i = h x y a b i) (ej : ∀ x y a b, g x y a b j = h x y a b j) : ∀ (k : Nat) (m : Int), downP g x y a b i j k m = downP h x y a b i j k m
  | 0, _ => rfl
  | k + 1, m => by simp only [downP]; rw [downP_congr ei ej k m, ei, ej]
theorem acrP_congr {g h : P5} {x y a b i j : Nat} (ei : ∀ x y a b, g x y a b i = h x y a b i) (ej : ∀ x y a b, g x y a b j = h x y a b j) : ∀ (k : Nat) (m : Int), acrP g x y a b i j k m = acrP h x y a b i j k m
  | 0, _ => rfl
  | k + 1, m => by simp only [acrP]; rw [acrP_congr ei ej k m, ei, ej]
theorem someP_congr {g h : P5} {x y a b s : Nat} (e : ∀ x y a b i, 1 ≤ i → i < s → g x y a b i = h x y a b i) : ∀ (k : Nat) (m : Int), k + 1 ≤ s → someP g x y a b s k m = someP h x y a b s k m
  | 0, _, _ => rfl
  | k + 1, m, hk => by
    simp only [someP]
    have e1 : ∀ x y a b, g x y a b (k + 1) = h x y a b (k + 1) := fun x y a b => e x y a b _ (by omega) (by omega)
    have e2 : ∀ x y a b, g x y a b (s - (k + 1)) = h x y a b (s - (k + 1)) := fun x y a b => e x y a b _ (by omega) (by omega)
    rw [someP_congr e k m (by omega), downP_congr e1 e2, acrP_congr e1 e2]
theorem stepP_congr {ss : List ByteArray} {g h : P5} {x y a b s : Nat} (hs : 1 ≤ s) (e : ∀ x y a b i, 1 ≤ i → i < s → g x y a b i = h x y a b i) : stepP ss g x y a b s = stepP ss h x y a b s := by
  unfold stepP
  rw [someP_congr e (s - 1) (-1) (by omega)]
theorem pcS_more (ss : List ByteArray) : ∀ (f x y a b s : Nat), 1 ≤ s → s ≤ f → pcS ss f x y a b s = pcS ss (f + 1) x y a b s
  | 0, x, y, a, b, s, hs, h => by omega
  | f + 1, x, y, a, b, s, hs, h => by
    show stepP ss (pcS ss f) x y a b s = stepP ss (pcS ss (f + 1)) x y a b s
    exact stepP_congr hs fun x y a b i h1 h2 => pcS_more ss f x y a b i h1 (by omega)
theorem pcS_pc (ss : List ByteArray) (x y a b s : Nat) (hs : 1 ≤ s) : ∀ d, pcS ss (s + d) x y a b s = pc ss x y a b s
  | 0 => rfl
  | d + 1 => by rw [← Nat.add_assoc, ← pcS_more ss (s + d) x y a b s hs (by omega)]; exact pcS_pc ss x y a b s hs d
theorem pc_step (ss : List ByteArray) (x y a b s : Nat) (hs : 1 ≤ s) : pc ss x y a b s = stepP ss (pc ss) x y a b s := by
  obtain ⟨f, hf⟩ : ∃ f, s = f + 1 := ⟨s - 1, by omega⟩
  show pcS ss s x y a b s = _
  rw [show pcS ss s = pcS ss (f + 1) by rw [hf]]
  show stepP ss (pcS ss f) x y a b s = _
  exact stepP_congr hs fun x y a b i h1 h2 => by rw [← pcS_pc ss x y a b i h1 (f - i)]; congr 1; omega

theorem downP_le {g : P5} {x y a b i j : Nat} {c : Int} : ∀ (k : Nat) (m : Int), downP g x y a b i j k m ≤ c ↔ m ≤ c ∧ ∀ q, 1 ≤ q → q ≤ k → min (g x y q b i) (g (x + q) y (a - q) b j) ≤ c
  | 0, m => ⟨fun h => ⟨h, fun q h1 h2 => by omega⟩, fun h => h.1⟩
  | k + 1, m => by
    simp only [downP, Int.max_le]
    rw [downP_le k m]
    constructor
    · rintro ⟨⟨h1, h2⟩, h3⟩
      refine ⟨h1, fun q q1 q2 => ?_⟩
      by_cases e : q = k + 1
      · subst e; exact h3
      · exact h2 q q1 (by omega)
    · rintro ⟨h1, h2⟩
      exact ⟨⟨h1, fun q q1 q2 => h2 q q1 (by omega)⟩, h2 (k + 1) (by omega) (by omega)⟩
theorem acrP_le {g : P5} {x y a b i j : Nat} {c : Int} : ∀ (k : Nat) (m : Int), acrP g x y a b i j k m ≤ c ↔ m ≤ c ∧ ∀ q, 1 ≤ q → q ≤ k → min (g x y a q i) (g x (y + q) a (b - q) j) ≤ c
  | 0, m => ⟨fun h => ⟨h, fun q h1 h2 => by omega⟩, fun h => h.1⟩
  | k + 1, m => by
    simp only [acrP, Int.max_le]
    rw [acrP_le k m]
    constructor
    · rintro ⟨⟨h1, h2⟩, h3⟩
      refine ⟨h1, fun q q1 q2 => ?_⟩
      by_cases e : q = k + 1
      · subst e; exact h3
      · exact h2 q q1 (by omega)
    · rintro ⟨h1, h2⟩
      exact ⟨⟨h1, fun q q1 q2 => h2 q q1 (by omega)⟩, h2 (k + 1) (by omega) (by omega)⟩
def CandP (g : P5) (x y a b i j : Nat) (c : Int) : Prop := (∀ q, 1 ≤ q → q ≤ a - 1 → min (g x y q b i) (g (x + q) y (a - q) b j) ≤ c) ∧ ∀ q, 1 ≤ q → q ≤ b - 1 → min (g x y a q i) (g x (y + q) a (b - q) j) ≤ c
theorem someP_le {g : P5} {x y a b s : Nat} {c : Int} : ∀ (k : Nat) (m : Int), someP g x y a b s k m ≤ c ↔ m ≤ c ∧ ∀ i, 1 ≤ i → i ≤ k → CandP g x y a b i (s - i) c
  | 0, m => ⟨fun h => ⟨h, fun q h1 h2 => by omega⟩, fun h => h.1⟩
  | k + 1, m => by
    simp only [someP]
    rw [acrP_le, downP_le, someP_le k m]
    constructor
    · rintro ⟨⟨⟨h1, h2⟩, h3⟩, h4⟩
      refine ⟨h1, fun i i1 i2 => ?_⟩
      by_cases e : i = k + 1
      · subst e; exact ⟨h3, h4⟩
      · exact h2 i i1 (by omega)
    · rintro ⟨h1, h2⟩
      have h3 := h2 (k + 1) (by omega) (by omega)
      exact ⟨⟨⟨h1, fun i i1 i2 => h2 i i1 (by omega)⟩, h3.1⟩, h3.2⟩

/-- bounds -/
theorem pc_le {ss : List ByteArray} {W H : Nat} (hn : NB ss W H) : ∀ (f x y a b s : Nat), s ≤ f → 1 ≤ s → 1 ≤ a → 1 ≤ b → x + a ≤ W → y + b ≤ H → pc ss x y a b s ≤ 576
  | 0, x, y, a, b, s, hf, hs, _, _, _, _ => by omega
  | f + 1, x, y, a, b, s, hf, hs, ha, hb, hx, hy => by
    rw [pc_step ss x y a b s hs]
    unfold stepP
    split
    · omega
    · split
      · have := rect_576 hn hx hy; omega
      · rw [someP_le]
        refine ⟨by omega, fun i i1 i2 => ⟨fun q q1 q2 => ?_, fun q q1 q2 => ?_⟩⟩
        · have := pc_le hn f x y q b i (by omega) i1 q1 hb (by omega) hy; omega
        · have := pc_le hn f x y a q i (by omega) i1 ha q1 hx (by omega); omega
theorem downP_ge {g : P5} {x y a b i j : Nat} (k : Nat) (m : Int) : m ≤ downP g x y a b i j k m := ((downP_le (c := downP g x y a b i j k m) k m).1 (Int.le_refl _)).1
theorem acrP_ge {g : P5} {x y a b i j : Nat} (k : Nat) (m : Int) : m ≤ acrP g x y a b i j k m := ((acrP_le (c := acrP g x y a b i j k m) k m).1 (Int.le_refl _)).1
theorem someP_ge {g : P5} {x y a b s : Nat} (k : Nat) (m : Int) : m ≤ someP g x y a b s k m := ((someP_le (c := someP g x y a b s k m) k m).1 (Int.le_refl _)).1
theorem pc_ge (ss : List ByteArray) (x y a b s : Nat) (hs : 1 ≤ s) : -1 ≤ pc ss x y a b s := by
  rw [pc_step ss x y a b s hs]
  unfold stepP
  split
  · omega
  · split
    · omega
    · exact someP_ge _ _
theorem pc_few {ss : List ByteArray} {x y a b s : Nat} (hs : 1 ≤ s) (h : a * b < s) : pc ss x y a b s = -1 := by
  rw [pc_step ss x y a b s hs]
  exact if_pos h
theorem pc_pos (ss : List ByteArray) : ∀ (f x y a b s : Nat), s ≤ f → 1 ≤ s → 1 ≤ a → 1 ≤ b → s ≤ a * b → 0 ≤ pc ss x y a b s
  | 0, x, y, a, b, s, hf, hs, _, _, _ => by omega
  | f + 1, x, y, a, b, s, hf, hs, ha, hb, hab => by
    by_cases h0 : 0 ≤ pc ss x y a b s
    · exact h0
    · exfalso
      have hle : pc ss x y a b s ≤ -1 := by omega
      rw [pc_step ss x y a b s hs] at hle
      unfold stepP at hle
      rw [if_neg (by omega)] at hle
      split at hle
      · omega
      · rename_i h1
        rw [someP_le] at hle
        have hall := hle.2
        by_cases ha2 : 2 ≤ a
        · obtain ⟨c, rfl⟩ : ∃ c, a = c + 1 := ⟨a - 1, by omega⟩
          have hm : (c + 1) * b = c * b + b := Nat.succ_mul c b
          have hc : 1 * 1 ≤ c * b := Nat.mul_le_mul (by omega) hb
          have q := (hall (min b (s - 1)) (by omega) (by omega)).1 1 (Nat.le_refl _) (by omega)
          have p1 := pc_pos ss f x y 1 b (min b (s - 1)) (by omega) (by omega) (by omega) hb (by omega)
          have p2 := pc_pos ss f (x + 1) y (c + 1 - 1) b (s - min b (s - 1)) (by omega) (by omega) (by omega) hb (by rw [Nat.add_sub_cancel]; omega)
          omega
        · obtain rfl : a = 1 := by omega
          have q := (hall 1 (by omega) (by omega)).2 1 (Nat.le_refl _) (by omega)
          have p1 := pc_pos ss f x y 1 1 1 (by omega) (by omega) (by omega) (by omega) (by omega)
          have p2 := pc_pos ss f x (y + 1) 1 (b - 1) (s - 1) (by omega) (by omega) (by omega) (by omega) (by omega)
          omega

/-- the program's way -/
def combP (F O : Nat → Int) (t : Nat) : Nat → Int → Int
  | 0, m => m
  | k + 1, m => max (combP F O t k m) (min (F (k + 1)) (O (t - (k + 1))))
theorem combP_le {F O : Nat → Int} {t : Nat} {c : Int} : ∀ (k : Nat) (m : Int), combP F O t k m ≤ c ↔ m ≤ c ∧ ∀ i, 1 ≤ i → i ≤ k → min (F i) (O (t - i)) ≤ c
  | 0, m => ⟨fun h => ⟨h, fun q h1 h2 => by omega⟩, fun h => h.1⟩
  | k + 1, m => by
    simp only [combP, Int.max_le]
    rw [combP_le k m]
    constructor
    · rintro ⟨⟨h1, h2⟩, h3⟩
      refine ⟨h1, fun q q1 q2 => ?_⟩
      by_cases e : q = k + 1
      · subst e; exact h3
      · exact h2 q q1 (by omega)
    · rintro ⟨h1, h2⟩
      exact ⟨⟨h1, fun q q1 q2 => h2 q q1 (by omega)⟩, h2 (k + 1) (by omega) (by omega)⟩
/-- what the program's table has of a part -/
def pr (ss : List ByteArray) (x y a b t : Nat) : Int := if t = 0 then 0 else max 0 (pc ss x y a b t)
theorem pr_pos {ss : List ByteArray} {x y a b t : Nat} (h : 1 ≤ t) : pr ss x y a b t = max 0 (pc ss x y a b t) := if_neg (by omega)
theorem pr_ge (ss : List ByteArray) (x y a b t : Nat) : 0 ≤ pr ss x y a b t := by unfold pr; split <;> omega
theorem pr_le {ss : List ByteArray} {W H : Nat} (hn : NB ss W H) {x y a b t : Nat} (ha : 1 ≤ a) (hb : 1 ≤ b) (hx : x + a ≤ W) (hy : y + b ≤ H) : pr ss x y a b t ≤ 576 := by
  unfold pr
  split
  · omega
  · have := pc_le hn t x y a b t (Nat.le_refl _) (by omega) ha hb hx hy; omega
/-- the shares behind the first k of both lists of breaks -/
def prD (ss : List ByteArray) (x y a b t : Nat) : Nat → Int → Int
  | 0, m => m
  | k + 1, m => combP (pr ss x y (k + 1) b) (pr ss (x + (k + 1)) y (a - (k + 1)) b) t (t - 1) (prD ss x y a b t k m)
def prA (ss : List ByteArray) (x y a b t : Nat) : Nat → Int → Int
  | 0, m => m
  | k + 1, m => combP (pr ss x y a (k + 1)) (pr ss x (y + (k + 1)) a (b - (k + 1))) t (t - 1) (prA ss x y a b t k m)
theorem prD_le {ss : List ByteArray} {x y a b t : Nat} {c : Int} : ∀ (k : Nat) (m : Int), prD ss x y a b t k m ≤ c ↔ m ≤ c ∧ ∀ q, 1 ≤ q → q ≤ k → ∀ i, 1 ≤ i → i ≤ t - 1 → min (pr ss x y q b i) (pr ss (x + q) y (a - q) b (t - i)) ≤ c
  | 0, m => ⟨fun h => ⟨h, fun q h1 h2 => by omega⟩, fun h => h.1⟩
  | k + 1, m => by
    simp only [prD]
    rw [combP_le, prD_le k m]
    constructor
    · rintro ⟨⟨h1, h2⟩, h3⟩
      refine ⟨h1, fun q q1 q2 => ?_⟩
      by_cases e : q = k + 1
      · subst e; exact h3
      · exact h2 q q1 (by omega)
    · rintro ⟨h1, h2⟩
      exact ⟨⟨h1, fun q q1 q2 => h2 q q1 (by omega)⟩, h2 (k + 1) (by omega) (by omega)⟩
theorem prA_le {ss : List ByteArray} {x y a b t : Nat} {c : Int} : ∀ (k : Nat) (m : Int), prA ss x y a b t k m ≤ c ↔ m ≤ c ∧ ∀ q, 1 ≤ q → q ≤ k → ∀ i, 1 ≤ i → i ≤ t - 1 → min (pr ss x y a q i) (pr ss x (y + q) a (b - q) (t - i)) ≤ c
  | 0, m => ⟨fun h => ⟨h, fun q h1 h2 => by omega⟩, fun h => h.1⟩
  | k + 1, m => by
    simp only [prA]
    rw [combP_le, prA_le k m]
    constructor
    · rintro ⟨⟨h1, h2⟩, h3⟩
      refine ⟨h1, fun q q1 q2 => ?_⟩
      by_cases e : q = k + 1
      · subst e; exact h3
      · exact h2 q q1 (by omega)
    · rintro ⟨h1, h2⟩
      exact ⟨⟨h1, fun q q1 q2 => h2 q q1 (by omega)⟩, h2 (k + 1) (by omega) (by omega)⟩
def startP (many : Int) (t : Nat) : Int := if t = 1 then many else 0
theorem int_eq_of_le {u v : Int} (h : ∀ c, u ≤ c ↔ v ≤ c) : u = v := by
  have h1 := (h v).2 (Int.le_refl _)
  have h2 := (h u).1 (Int.le_refl _)
  omega
theorem prD_small (ss : List ByteArray) {x y a b t : Nat} (ht : t ≤ 1) : ∀ (k : Nat) (m : Int), prD ss x y a b t k m = m
  | 0, m => rfl
  | k + 1, m => by simp only [prD]; rw [show t - 1 = 0 by omega]; exact prD_small ss ht k m
theorem prA_small (ss : List ByteArray) {x y a b t : Nat} (ht : t ≤ 1) : ∀ (k : Nat) (m : Int), prA ss x y a b t k m = m
  | 0, m => rfl
  | k + 1, m => by simp only [prA]; rw [show t - 1 = 0 by omega]; exact prA_small ss ht k m
theorem pr_step (ss : List ByteArray) (x y a b t : Nat) (ha : 1 ≤ a) (hb : 1 ≤ b) : prA ss x y a b t (b - 1) (prD ss x y a b t (a - 1) (startP ((rect ss x y a b : Nat) : Int) t)) = pr ss x y a b t := by
  by_cases h2 : t ≤ 1
  · rw [prA_small ss h2, prD_small ss h2]
    by_cases h0 : t = 0
    · subst h0; rfl
    · obtain rfl : t = 1 := by omega
      have hp : 1 * 1 ≤ a * b := Nat.mul_le_mul ha hb
      have e1 : startP ((rect ss x y a b : Nat) : Int) 1 = ((rect ss x y a b : Nat) : Int) := if_pos rfl
      have e2 : stepP ss (pc ss) x y a b 1 = ((rect ss x y a b : Nat) : Int) := by unfold stepP; rw [if_neg (by omega : ¬ a * b < 1), if_pos rfl]
      rw [pr_pos (by omega), pc_step ss x y a b 1 (by omega), e1, e2]
      omega
  · apply int_eq_of_le
    intro c
    rw [prA_le, prD_le, pr_pos (by omega)]
    have e0 : startP ((rect ss x y a b : Nat) : Int) t = 0 := if_neg (by omega)
    rw [e0, Int.max_le]
    by_cases hc : 0 ≤ c
    · have hmin : ∀ u v : Int, min (max 0 u) (max 0 v) ≤ c ↔ min u v ≤ c := by intro u v; omega
      by_cases hs : a * b < t
      · rw [pc_few (by omega) hs]
        refine ⟨fun _ => ⟨hc, by omega⟩, fun _ => ⟨⟨hc, fun q q1 q2 i i1 i2 => ?_⟩, fun q q1 q2 i i1 i2 => ?_⟩⟩
        · rw [pr_pos i1, pr_pos (by omega), hmin]
          have hm : q * b + (a - q) * b = a * b := by rw [← Nat.add_mul]; congr 1; omega
          by_cases h : q * b < i
          · rw [pc_few (ss := ss) i1 h]; omega
          · rw [pc_few (ss := ss) (x := x + q) (y := y) (a := a - q) (b := b) (s := t - i) (by omega) (by omega)]; omega
        · rw [pr_pos i1, pr_pos (by omega), hmin]
          have hm : a * q + a * (b - q) = a * b := by rw [← Nat.mul_add]; congr 1; omega
          by_cases h : a * q < i
          · rw [pc_few (ss := ss) i1 h]; omega
          · rw [pc_few (ss := ss) (x := x) (y := y + q) (a := a) (b := b - q) (s := t - i) (by omega) (by omega)]; omega
      · rw [pc_step ss x y a b t (by omega)]
        unfold stepP
        rw [if_neg hs, if_neg (by omega), someP_le]
        constructor
        · rintro ⟨⟨_, h1⟩, h3⟩
          refine ⟨hc, by omega, fun i i1 i2 => ⟨fun q q1 q2 => ?_, fun q q1 q2 => ?_⟩⟩
          · have := h1 q q1 q2 i i1 i2; rw [pr_pos i1, pr_pos (by omega), hmin] at this; exact this
          · have := h3 q q1 q2 i i1 i2; rw [pr_pos i1, pr_pos (by omega), hmin] at this; exact this
        · rintro ⟨_, _, h1⟩
          refine ⟨⟨hc, fun q q1 q2 i i1 i2 => ?_⟩, fun q q1 q2 i i1 i2 => ?_⟩
          · rw [pr_pos i1, pr_pos (by omega), hmin]; exact (h1 i i1 i2).1 q q1 q2
          · rw [pr_pos i1, pr_pos (by omega), hmin]; exact (h1 i i1 i2).2 q q1 q2
    · constructor
      · rintro ⟨⟨h, _⟩, _⟩; omega
      · rintro ⟨h, _⟩; omega
theorem pr_final {ss : List ByteArray} {x y a b s : Nat} (ha : 1 ≤ a) (hb : 1 ≤ b) (hs : 1 ≤ s) (h : s ≤ a * b) : pr ss x y a b s = pc ss x y a b s := by
  have := pc_pos ss s x y a b s (Nat.le_refl _) hs ha hb h
  rw [pr_pos hs]; omega

end Go.Proofs.Ytfbmnaepobhnkaa
