/-
  Contract: the parts with so many nuts, of the program.
-/
import Derived.Test.YtfbmnaepobhnkaaParts
import Derived.Test.YtfbmnaepobhnkaaWithin
import Derived.Test.YtfbmnaepobhnkaaCorners
import Derived.Test.YtfbmnaepobhnkaaBarOf
namespace Go.Proofs.Ytfbmnaepobhnkaa
open Go.RowKit

/-- a part that lies in a bar -/
def QIn (W H : Nat) (p : Quad) : Prop := ∃ x y a b : Nat, p = ((x : Int), (y : Int), (a : Int), (b : Int)) ∧ 1 ≤ a ∧ 1 ≤ b ∧ x + a ≤ W ∧ y + b ≤ H
theorem rowParts_in {W H a b y : Nat} (ha : 1 ≤ a) (hb : 1 ≤ b) (hy : y + b ≤ H) (k : Nat) (hk : k + a ≤ W + 1) : ∀ p ∈ rowParts a b y k, QIn W H p := by
  induction k with
  | zero => intro p hp; simp [rowParts] at hp
  | succ k ih =>
    intro p hp
    rcases List.mem_append.1 hp with h | h
    · exact ih (by omega) p h
    · rw [List.mem_singleton.1 h]
      exact ⟨k, y, a, b, rfl, ha, hb, by omega, hy⟩
theorem sizeParts_in {W H a b : Nat} (ha : 1 ≤ a) (haW : a ≤ W) (hb : 1 ≤ b) (k : Nat) (hk : k + b ≤ H + 1) : ∀ p ∈ sizeParts a b (W + 1 - a) k, QIn W H p := by
  induction k with
  | zero => intro p hp; simp [sizeParts] at hp
  | succ k ih =>
    intro p hp
    rcases List.mem_append.1 hp with h | h
    · exact ih (by omega) p h
    · exact rowParts_in ha hb (by omega) _ (by omega) p h
theorem wideParts_in {W H a : Nat} (ha : 1 ≤ a) (haW : a ≤ W) (k : Nat) (hk : k ≤ H) : ∀ p ∈ wideParts W H a k, QIn W H p := by
  induction k with
  | zero => intro p hp; simp [wideParts] at hp
  | succ k ih =>
    intro p hp
    rcases List.mem_append.1 hp with h | h
    · exact ih (by omega) p h
    · exact sizeParts_in ha haW (by omega) _ (by omega) p h
theorem barParts_in {W H : Nat} (k : Nat) (hk : k ≤ W) : ∀ p ∈ barParts W H k, QIn W H p := by
  induction k with
  | zero => intro p hp; simp [barParts] at hp
  | succ k ih =>
    intro p hp
    rcases List.mem_append.1 hp with h | h
    · exact ih (by omega) p h
    · exact wideParts_in (by omega) (by omega) _ (Nat.le_refl _) p h

/-- the nuts of a part -/
def rectQ (ss : List ByteArray) (p : Quad) : Nat := rect ss p.1.toNat p.2.1.toNat p.2.2.1.toNat p.2.2.2.toNat
theorem within_part {ss : List ByteArray} {W n : Nat} (hb : NB ss W n) (X Y a b : Nat) (hxa : X + a ≤ W) (hyb : Y + b ≤ n) (w : World) :
    Calls Try.prog 41 #[.agg (cornA ss W n 0), part4 X Y a b] w fun e w' => e = .returned (.int .i64 (rect ss X Y a b : Nat)) ∧ Below w.heap.size w w' := by
  have hn8 := hb.h8
  have hz8 := hb.w8
  have h1 := rect_corner ss X Y a b
  have b1 := rect_576 hb (x := 0) (y := 0) (w := X + a) (h := Y + b) (by omega) (by omega)
  have b2 := rect_576 hb (x := 0) (y := 0) (w := X + a) (h := Y) (by omega) (by omega)
  have b3 := rect_576 hb (x := 0) (y := 0) (w := X) (h := Y + b) (by omega) (by omega)
  have b4 := rect_576 hb (x := 0) (y := 0) (w := X) (h := Y) (by omega) (by omega)
  refine (within_any (cornA ss W n 0) X Y a b (rect ss 0 0 (X + a) (Y + b) : Nat) (rect ss 0 0 (X + a) Y : Nat) (rect ss 0 0 X (Y + b) : Nat) (rect ss 0 0 X Y : Nat) w (by omega) (by omega) ?_ ?_ ?_ ?_ (by omega) (by omega) (by omega) (by omega)).mono ?_
  · rw [cornA_at _ _ _ _ _ (by omega), corn_full ss (by omega) hz8 (by omega)]
  · rw [cornA_at _ _ _ _ _ (by omega), corn_full ss (by omega) hz8 (by omega)]
  · rw [cornA_at _ _ _ _ _ (by omega), corn_full ss (by omega) hz8 (by omega)]
  · rw [cornA_at _ _ _ _ _ (by omega), corn_full ss (by omega) hz8 (by omega)]
  · rintro e w' ⟨rfl, h⟩
    exact ⟨by congr 2; omega, h⟩

/-- the parts of a bar with so many nuts, in order -/
def withL (ss : List ByteArray) (W H : Nat) (many : Int) : List Quad := (barParts W H W).filter fun p => decide ((rectQ ss p : Int) = many)
theorem RowAt.below {w w' : World} {g : Nat} {cs : Array Value} {B : Nat} (h : RowAt w g cs) (hb : Below B w w') (hg : g < B) : RowAt w' g cs := (hb.block g hg).trans h

theorem below_setRowN {B g : Nat} {a w : World} (h : Below B a w) (hg : B ≤ g) (cs : Array Value) : Below B a (w.setRow g cs) :=
  ⟨h.os, h.tape, h.output, by have := h.size; simpa [World.setRow] using this, fun b hb => by
    have e := h.block b hb
    rw [setRow_other w g b cs (by omega)]
    exact e⟩

end Go.Proofs.Ytfbmnaepobhnkaa
