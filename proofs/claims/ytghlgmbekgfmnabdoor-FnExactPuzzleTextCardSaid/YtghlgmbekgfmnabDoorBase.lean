/-
  Contracts of the small functions that every law of chapter 1 calls: numbers and bars. Conditions: none.
-/
import Derived.Test.YtghlgmbekgfmnabDoorRows
import Derived.WalkKit
import Derived.WalkSpells
import Derived.WalkLawsBesides
import Derived.Lib.Hide
namespace Go.Proofs.YtghlgmbekgfmnabDoor
open Go.RowKit

theorem ret_bool {a b : Bool} (h : a = b) : Ending.returned (.bool a) = .returned (.bool b) := by rw [h]
theorem ret_int {k : IntKind} {a b : Int} (h : a = b) : Ending.returned (.int k a) = .returned (.int k b) := by rw [h]

/-- behind a call that only makes new blocks, every old cell and mark is as before: two rules for the walk -/
theorem bcell {W w1 : World} (h : Below W.heap.size W w1) : (∀ b o, b < W.heap.size → w1.cell? ⟨b, o, none⟩ = W.cell? ⟨b, o, none⟩) ∧ (∀ b o, b < W.heap.size → w1.frozen? ⟨b, o, none⟩ = W.frozen? ⟨b, o, none⟩) :=
  ⟨fun b o hb => h.cell (p := ⟨b, o, none⟩) hb, fun b o hb => h.frozen (p := ⟨b, o, none⟩) hb⟩

theorem balloc {B : Nat} {a w : World} (hB : B ≤ w.heap.size) (o : Obj) (h : Below B a w) : Below B a (w.alloc o) := h.alloc hB o
theorem bset {B : Nat} {a w : World} {p : Addr} (hp : B ≤ p.block) (u : Value) (h : Below B a w) : Below B a (w.setCell p u) := h.setCell hp u
theorem bdrewN {B : Nat} {a w : World} (n : Nat) (h : Below B a w) : Below B a (w.drewN n) := ⟨h.os, h.tape, h.output, h.size, h.block⟩
theorem bcall {B : Nat} {a b c : World} (hB : B ≤ b.heap.size) (k : Below b.heap.size b c) (h : Below B a b) : Below B a c := h.trans (k.mono hB)

/-- a value of the two-field struct -/
abbrev bar2 (x y : Int) : Value := .agg #[.int .i64 x, .int .i64 y]


def inB (n a b : Int) : Bool := decide (a ≤ n ∧ n ≤ b)
def barB (x y : Int) : Bool := decide ((1 ≤ x ∧ x ≤ 12) ∧ (1 ≤ y ∧ y ≤ 12))

theorem barB_true {x y : Int} (h : barB x y = true) : 1 ≤ x ∧ x ≤ 12 ∧ 1 ≤ y ∧ y ≤ 12 := by
  simp [barB] at h; omega

set_option maxHeartbeats 400000 in
theorem l1In_any (n a b : Int) (w : World) :
    Calls Tryd.prog 46 #[.int .i64 n, .int .i64 a, .int .i64 b] w fun e w' => e = .returned (.bool (inB n a b)) ∧ w = w' := by
  by_cases h1 : a ≤ n <;> by_cases h2 : n ≤ b
  all_goals
    go_enter Tryd.func46, Tryd.ntmps46
    go_wp2
    go_ret
    exact ⟨by simp [inB, h1, h2], rfl⟩

theorem barB_cases {p : Prop} (x y : Int) (h1 : ¬ 1 ≤ x → barB x y = false → p) (h2 : 1 ≤ x → ¬ x ≤ 12 → barB x y = false → p) (h3 : 1 ≤ x → x ≤ 12 → ¬ 1 ≤ y → barB x y = false → p)
    (h4 : 1 ≤ x → x ≤ 12 → 1 ≤ y → ¬ y ≤ 12 → barB x y = false → p) (h5 : 1 ≤ x → x ≤ 12 → 1 ≤ y → y ≤ 12 → barB x y = true → p) : p := by
  by_cases a : 1 ≤ x
  · by_cases b : x ≤ 12
    · by_cases c : 1 ≤ y
      · by_cases d : y ≤ 12
        · exact h5 a b c d (by simp [barB, a, b, c, d])
        · exact h4 a b c d (by simp [barB, d])
      · exact h3 a b c (by simp [barB, c])
    · exact h2 a b (by simp [barB, b])
  · exact h1 a (by simp [barB, a])






end Go.Proofs.YtghlgmbekgfmnabDoor
