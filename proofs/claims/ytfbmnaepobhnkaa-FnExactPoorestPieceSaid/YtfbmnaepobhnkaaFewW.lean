/-
  Words: the fewest pieces of a part, by those of its parts.
-/
import Derived.Test.YtfbmnaepobhnkaaPartO
namespace Go.Proofs.Ytfbmnaepobhnkaa
open Go.RowKit

abbrev G4 := Nat → Nat → Nat → Nat → Nat
def downF (g : G4) (x y a b : Nat) : Nat → Nat → Nat
  | 0, s => s
  | k + 1, s => min (downF g x y a b k s) (g x y (k + 1) b + g (x + (k + 1)) y (a - (k + 1)) b)
def acrF (g : G4) (x y a b : Nat) : Nat → Nat → Nat
  | 0, s => s
  | k + 1, s => min (acrF g x y a b k s) (g x y a (k + 1) + g x (y + (k + 1)) a (b - (k + 1)))
def brokenF (g : G4) (x y a b : Nat) : Nat := acrF g x y a b (b - 1) (downF g x y a b (a - 1) (a * b))
def stepF (ss : List ByteArray) (most : Int) (g : G4) (x y a b : Nat) : Nat := if ((rect ss x y a b : Nat) : Int) ≤ most then 1 else brokenF g x y a b
def fewS (ss : List ByteArray) (most : Int) : Nat → G4
  | 0 => fun _ _ _ _ => 1
  | f + 1 => stepF ss most (fewS ss most f)
def few (ss : List ByteArray) (most : Int) : G4 := fun x y a b => fewS ss most (a + b) x y a b
theorem downF_congr {g h : G4} {x y a b : Nat} (e : ∀ x' a', 1 ≤ a' → a' < a → g x' y a' b = h x' y a' b) : ∀ (k s : Nat), k + 1 ≤ a → downF g x y a b k s = downF h x y a b k s
  | 0, _, _ => rfl
  | k + 1, s, hk => by simp only [downF]; rw [downF_congr e k s (by omega), e x (k + 1) (by omega) (by omega), e (x + (k + 1)) (a - (k + 1)) (by omega) (by omega)]
theorem acrF_congr {g h : G4} {x y a b : Nat} (e : ∀ y' b', 1 ≤ b' → b' < b → g x y' a b' = h x y' a b') : ∀ (k s : Nat), k + 1 ≤ b → acrF g x y a b k s = acrF h x y a b k s
  | 0, _, _ => rfl
  | k + 1, s, hk => by simp only [acrF]; rw [acrF_congr e k s (by omega), e y (k + 1) (by omega) (by omega), e (y + (k + 1)) (b - (k + 1)) (by omega) (by omega)]
theorem brokenF_congr {g h : G4} {x y a b : Nat} (ha : 1 ≤ a) (hb : 1 ≤ b) (e1 : ∀ x' a', 1 ≤ a' → a' < a → g x' y a' b = h x' y a' b) (e2 : ∀ y' b', 1 ≤ b' → b' < b → g x y' a b' = h x y' a b') : brokenF g x y a b = brokenF h x y a b := by
  unfold brokenF
  rw [downF_congr e1 _ _ (by omega), acrF_congr e2 _ _ (by omega)]
theorem fewS_more (ss : List ByteArray) (most : Int) : ∀ (f : Nat) (x y a b : Nat), 1 ≤ a → 1 ≤ b → a + b ≤ f → fewS ss most f x y a b = fewS ss most (f + 1) x y a b
  | 0, x, y, a, b, ha, hb, h => by omega
  | f + 1, x, y, a, b, ha, hb, h => by
    show stepF ss most (fewS ss most f) x y a b = stepF ss most (fewS ss most (f + 1)) x y a b
    unfold stepF
    rw [brokenF_congr ha hb (fun x' a' h1 h2 => fewS_more ss most f x' y a' b h1 hb (by omega)) (fun y' b' h1 h2 => fewS_more ss most f x y' a b' ha h1 (by omega))]
theorem fewS_few (ss : List ByteArray) (most : Int) (x y a b : Nat) (ha : 1 ≤ a) (hb : 1 ≤ b) : ∀ d, fewS ss most (a + b + d) x y a b = few ss most x y a b
  | 0 => rfl
  | d + 1 => by rw [← Nat.add_assoc, ← fewS_more ss most (a + b + d) x y a b ha hb (by omega)]; exact fewS_few ss most x y a b ha hb d
theorem few_step (ss : List ByteArray) (most : Int) (x y a b : Nat) (ha : 1 ≤ a) (hb : 1 ≤ b) : few ss most x y a b = stepF ss most (few ss most) x y a b := by
  obtain ⟨f, hf⟩ : ∃ f, a + b = f + 1 := ⟨a + b - 1, by omega⟩
  show fewS ss most (a + b) x y a b = _
  rw [hf]
  show stepF ss most (fewS ss most f) x y a b = _
  unfold stepF
  rw [brokenF_congr ha hb (fun x' a' h1 h2 => ?_) (fun y' b' h1 h2 => ?_)]
  · rw [← fewS_few ss most x' y a' b h1 hb (f - (a' + b))]; congr 1; omega
  · rw [← fewS_few ss most x y' a b' ha h1 (f - (a + b'))]; congr 1; omega
theorem downF_in {g : G4} {x y a b lo : Nat} (hlo : lo ≤ 2) (hg : ∀ x' a', 1 ≤ a' → a' < a → 1 ≤ g x' y a' b) : ∀ (k s : Nat), k + 1 ≤ a → lo ≤ s → lo ≤ downF g x y a b k s ∧ downF g x y a b k s ≤ s
  | 0, s, _, h => ⟨h, Nat.le_refl _⟩
  | k + 1, s, hk, h => by
    have h1 := downF_in (x := x) hlo hg k s (by omega) h
    have h2 := hg x (k + 1) (by omega) (by omega)
    have h3 := hg (x + (k + 1)) (a - (k + 1)) (by omega) (by omega)
    simp only [downF]
    omega
theorem acrF_in {g : G4} {x y a b lo : Nat} (hlo : lo ≤ 2) (hg : ∀ y' b', 1 ≤ b' → b' < b → 1 ≤ g x y' a b') : ∀ (k s : Nat), k + 1 ≤ b → lo ≤ s → lo ≤ acrF g x y a b k s ∧ acrF g x y a b k s ≤ s
  | 0, s, _, h => ⟨h, Nat.le_refl _⟩
  | k + 1, s, hk, h => by
    have h1 := acrF_in (y := y) hlo hg k s (by omega) h
    have h2 := hg y (k + 1) (by omega) (by omega)
    have h3 := hg (y + (k + 1)) (b - (k + 1)) (by omega) (by omega)
    simp only [acrF]
    omega
theorem few_in (ss : List ByteArray) (most : Int) : ∀ (f x y a b : Nat), a + b ≤ f → 1 ≤ a → 1 ≤ b → 1 ≤ few ss most x y a b ∧ few ss most x y a b ≤ a * b
  | 0, x, y, a, b, h, ha, hb => by omega
  | f + 1, x, y, a, b, h, ha, hb => by
    have hp : 1 * 1 ≤ a * b := Nat.mul_le_mul ha hb
    rw [few_step ss most x y a b ha hb]
    unfold stepF
    split
    · omega
    · unfold brokenF
      have h1 := downF_in (g := few ss most) (x := x) (y := y) (a := a) (b := b) (lo := 1) (by omega) (fun x' a' q1 q2 => (few_in ss most f x' y a' b (by omega) q1 hb).1) (a - 1) (a * b) (by omega) (by omega)
      have h2 := acrF_in (g := few ss most) (x := x) (y := y) (a := a) (b := b) (lo := 1) (by omega) (fun y' b' q1 q2 => (few_in ss most f x y' a b' (by omega) ha q1).1) (b - 1) _ (by omega) h1.1
      omega
theorem few_ge (ss : List ByteArray) (most : Int) {x y a b : Nat} (ha : 1 ≤ a) (hb : 1 ≤ b) : 1 ≤ few ss most x y a b := (few_in ss most _ x y a b (Nat.le_refl _) ha hb).1
theorem few_le (ss : List ByteArray) (most : Int) {x y a b : Nat} (ha : 1 ≤ a) (hb : 1 ≤ b) : few ss most x y a b ≤ a * b := (few_in ss most _ x y a b (Nat.le_refl _) ha hb).2
theorem few_le64 (ss : List ByteArray) (most : Int) {x y a b : Nat} (ha : 1 ≤ a) (hb : 1 ≤ b) (ha8 : a ≤ 8) (hb8 : b ≤ 8) : few ss most x y a b ≤ 64 := Nat.le_trans (few_le ss most ha hb) (Nat.mul_le_mul ha8 hb8)

end Go.Proofs.Ytfbmnaepobhnkaa
