/-
  Words for counted ways: a map keyed by bars that holds numbers; the recurrence of trees and that it has one solution.
-/
import Derived.Test.YthemmckchmpicaaWords
import Derived.Test.YthemmckchmpicaaLines
import Derived.Maps.OwnOps
import Derived.Maps.OwnSet
import Derived.Maps.Views
import Derived.DeepKeys4
namespace Go.Proofs.Ythemmckchmpicaa
open Go.RowKit Go.Maps
set_option linter.unusedVariables false

def litB (x y : Nat) : Lit := .string (keyBytes [.int .i64 x, .int .i64 y])
theorem barLaidOut : laidOutB Try.prog = true := by kernel_rfl
theorem barWide : (match Try.prog.underlying 26 with | some (.array _ _) | some (.struct _) => true | _ => false) = true := by kernel_rfl
theorem barLaw : Keyed Try.prog 26 := Keyed.of_law (deep_law_laid barLaidOut (m := 2) (by omega) (of_decide_eq_true (by kernel_rfl)) (by kernel_rfl) barWide)
theorem barKeyType : Try.prog.keyType 26 = true := by kernel_rfl
theorem barCells : Try.prog.cellsOf 26 = 2 := by kernel_rfl
theorem barKey (x y : Nat) (hx : x ≤ 1000000) (hy : y ≤ 1000000) : keyOf Try.prog 26 (bar2 x y) = some (litB x y) := by
  have w1 : (Lit.int .i64 (x : Int)).wf = true := WalkArith.wf_i64 (by omega)
  have w2 : (Lit.int .i64 (y : Int)).wf = true := WalkArith.wf_i64 (by omega)
  obtain ⟨m, hm⟩ : ∃ m, Try.prog.types.size + 1 = m + 2 := ⟨Try.prog.types.size - 1, by have : 2 ≤ Try.prog.types.size := of_decide_eq_true (by kernel_rfl); omega⟩
  have hi := Try.underlying3
  have ci : Try.prog.cellsOf 3 = 1 := by kernel_rfl
  unfold keyOf
  rw [Try.underlying26]
  simp only [barKeyType, Value.formed, Try.underlying26, barCells, hm]
  simp [Program.keyLits, Try.underlying26, barCells, hi, ci, w1, w2, Value.cells, litB]
theorem litB_inj {a b c d : Nat} (ha : a ≤ 1000000) (hb : b ≤ 1000000) (hc : c ≤ 1000000) (hd : d ≤ 1000000) (h : litB a b = litB c d) : a = c ∧ b = d := by
  have e := barLaw.inj (barKey a b ha hb) (by rw [h]; exact barKey c d hc hd)
  simp at e
  omega

/-- block b is a map from bars to numbers, of at most n entries, that holds M -/
def MapAt (w : World) (b n : Nat) (M : Nat → Nat → Int) : Prop := ∃ (D : DataW Unit), w.ownsMap Try.prog 26 (plainElem Try.prog 3) b n D ∧ ∀ x y : Nat, x ≤ 100 → y ≤ 100 → D.atKey (litB x y) (.lit (.int .i64 0)) = .lit (.int .i64 (M x y))
theorem zeroInt (w : World) : (zeroValue 3).run Try.prog w = .ok (.int .i64 0) w := by kernel_rfl
theorem MapAt.look {w : World} {b n : Nat} {M : Nat → Nat → Int} (h : MapAt w b n M) {x y : Nat} (hx : x ≤ 100) (hy : y ≤ 100) : (Instr.lookup 54 (.map (some b)) (bar2 x y) false).run Try.prog w = .ok (.int .i64 (M x y)) w := by
  obtain ⟨D, hown, hM⟩ := h
  obtain ⟨c, hrun, hat, _⟩ := hown.lookup_int barLaw Try.underlying54 Try.underlying3 (zeroInt w) (barKey x y (by omega) (by omega))
  rw [hM x y hx hy] at hat
  simp only [DataW.lit.injEq, Lit.int.injEq, true_and] at hat
  rw [hrun, hat]
theorem MapAt.below {w w' : World} {b n B : Nat} {M : Nat → Nat → Int} (h : MapAt w b n M) (hb : Below B w w') (hB : b < B) : MapAt w' b n M := by
  obtain ⟨D, hown, hM⟩ := h
  obtain ⟨es, clock, h1, h2⟩ := hown
  exact ⟨D, ⟨es, clock, (hb.block b hB).trans h1, h2⟩, hM⟩
theorem MapAt.lt {w : World} {b n : Nat} {M : Nat → Nat → Int} (h : MapAt w b n M) : b < w.heap.size := by
  obtain ⟨D, ⟨es, clock, h1, h2⟩, hM⟩ := h
  exact (Array.getElem?_eq_some_iff.1 h1).1
theorem MapAt.alloc {w : World} {b n : Nat} {M : Nat → Nat → Int} (h : MapAt w b n M) (o : Obj) : MapAt (w.alloc o) b n M :=
  h.below ((Below.refl w.heap.size w).alloc (Nat.le_refl _) o) h.lt
theorem MapAt.drew {w : World} {b n : Nat} {M : Nat → Nat → Int} (h : MapAt w b n M) : MapAt w.drew b n M := h
theorem MapAt.made (w : World) (M : Nat → Nat → Int) (hM : ∀ x y, M x y = 0) : MapAt (w.alloc (.map #[] 0)) w.heap.size 0 M :=
  ⟨.map [], World.ownsMap_made _ _ _ _, fun x y _ _ => by rw [hM]; rfl⟩
def upd (M : Nat → Nat → Int) (x y : Nat) (v : Int) : Nat → Nat → Int := fun a b => if a = x ∧ b = y then v else M a b
theorem upd_same (M : Nat → Nat → Int) (x y : Nat) (v : Int) : upd M x y v x y = v := if_pos ⟨rfl, rfl⟩
theorem upd_other {M : Nat → Nat → Int} {x y a b : Nat} {v : Int} (h : ¬ (a = x ∧ b = y)) : upd M x y v a b = M a b := if_neg h
theorem litB_key (x y : Nat) : WideAt.IsKeyLit (litB x y) := by trivial
theorem MapAt.put {w : World} {b n : Nat} {M : Nat → Nat → Int} (h : MapAt w b n M) (hn : n ≤ 100000) {x y : Nat} (hx : x ≤ 100) (hy : y ≤ 100) (v : Int) (hv : (Lit.int .i64 v).wf = true) :
    ∃ w', (Instr.mapUpdate 54 (.map (some b)) (bar2 x y) (.int .i64 v)).run Try.prog w = .ok () w' ∧ MapAt w' b (n + 1) (upd M x y v) ∧ w.grownBy w' (some b) := by
  obtain ⟨D, hown, hM⟩ := h
  obtain ⟨w', hrun, hown', hg⟩ := hown.update barLaw Try.underlying54 (by simp only [maxLen]; omega) (barKey x y (by omega) (by omega)) (plainElem_int Try.underlying3 hv)
  refine ⟨w', hrun, ⟨_, hown', ?_⟩, hg⟩
  intro a c ha hc
  by_cases e : a = x ∧ c = y
  · obtain ⟨rfl, rfl⟩ := e
    rw [atKey_put_same (hown.tidy barLaw).isMap (litB_key _ _), upd_same]
  · rw [atKey_put_other (fun q => e (litB_inj (by omega) (by omega) (by omega) (by omega) q)), hM a c ha hc, upd_other e]

/-- the recurrence -/
def timesC (a b : Int) : Int := if a * b ≤ 1000000000000000 then a * b else 1000000000000001
def capS (s : Int) : Int := if s ≤ 1000000000000000 then s else 1000000000000001
def downV (M : Nat → Nat → Int) (x y : Nat) : Nat → Int → Int
  | 0, s => s
  | k + 1, s => capS (downV M x y k s + timesC (M (k + 1) y) (M (x - (k + 1)) y))
def acrossV (M : Nat → Nat → Int) (x y : Nat) : Nat → Int → Int
  | 0, s => s
  | k + 1, s => capS (acrossV M x y k s + timesC (M x (k + 1)) (M x (y - (k + 1))))
def stepV (M : Nat → Nat → Int) (x y : Nat) : Int := if x = 1 ∧ y = 1 then 1 else acrossV M x y (y - 1) (downV M x y (x - 1) 0)
def InR (v : Int) : Prop := 1 ≤ v ∧ v ≤ 1000000000000001
/-- all bars within x, y but this one have numbers in range -/
def GoodM (M : Nat → Nat → Int) (x y : Nat) : Prop := ∀ a b, 1 ≤ a → a ≤ x → 1 ≤ b → b ≤ y → ¬ (a = x ∧ b = y) → InR (M a b)
theorem timesC_in {a b : Int} (ha : InR a) (hb : InR b) : InR (timesC a b) := by
  have h1 : 1 * 1 ≤ a * b := Int.mul_le_mul ha.1 hb.1 (by omega) (by have := ha.1; omega)
  unfold timesC InR
  split <;> omega
theorem capS_in {s : Int} (h : 0 ≤ s) : 0 ≤ capS s ∧ capS s ≤ 1000000000000001 ∧ (1 ≤ s → 1 ≤ capS s) := by
  unfold capS
  split <;> omega
theorem downV_in {M : Nat → Nat → Int} {x y : Nat} (hM : GoodM M x y) (hy : 1 ≤ y) : ∀ (k : Nat) (s : Int), k + 1 ≤ x → 0 ≤ s → s ≤ 1000000000000001 → 0 ≤ downV M x y k s ∧ downV M x y k s ≤ 1000000000000001 ∧ (1 ≤ k ∨ 1 ≤ s → 1 ≤ downV M x y k s)
  | 0, s, _, h0, h1 => ⟨h0, h1, fun h => h.elim (fun h => absurd h (by omega)) id⟩
  | k + 1, s, hk, h0, h1 => by
    obtain ⟨a1, a2, a3⟩ := downV_in hM hy k s (by omega) h0 h1
    have ht := timesC_in (hM (k + 1) y (by omega) (by omega) hy (Nat.le_refl _) (by omega)) (hM (x - (k + 1)) y (by omega) (by omega) hy (Nat.le_refl _) (by omega))
    have hc := capS_in (s := downV M x y k s + timesC (M (k + 1) y) (M (x - (k + 1)) y)) (by have := ht.1; omega)
    exact ⟨hc.1, hc.2.1, fun _ => hc.2.2 (by have := ht.1; omega)⟩
theorem acrossV_in {M : Nat → Nat → Int} {x y : Nat} (hM : GoodM M x y) (hx : 1 ≤ x) : ∀ (k : Nat) (s : Int), k + 1 ≤ y → 0 ≤ s → s ≤ 1000000000000001 → 0 ≤ acrossV M x y k s ∧ acrossV M x y k s ≤ 1000000000000001 ∧ (1 ≤ k ∨ 1 ≤ s → 1 ≤ acrossV M x y k s)
  | 0, s, _, h0, h1 => ⟨h0, h1, fun h => h.elim (fun h => absurd h (by omega)) id⟩
  | k + 1, s, hk, h0, h1 => by
    obtain ⟨a1, a2, a3⟩ := acrossV_in hM hx k s (by omega) h0 h1
    have ht := timesC_in (hM x (k + 1) hx (Nat.le_refl _) (by omega) (by omega) (by omega)) (hM x (y - (k + 1)) hx (Nat.le_refl _) (by omega) (by omega) (by omega))
    have hc := capS_in (s := acrossV M x y k s + timesC (M x (k + 1)) (M x (y - (k + 1)))) (by have := ht.1; omega)
    exact ⟨hc.1, hc.2.1, fun _ => hc.2.2 (by have := ht.1; omega)⟩
theorem stepV_in {M : Nat → Nat → Int} {x y : Nat} (hM : GoodM M x y) (hx : 1 ≤ x) (hy : 1 ≤ y) : InR (stepV M x y) := by
  unfold stepV
  split
  · unfold InR; omega
  · rename_i h
    obtain ⟨a1, a2, a3⟩ := downV_in hM hy (x - 1) 0 (by omega) (by omega) (by omega)
    obtain ⟨b1, b2, b3⟩ := acrossV_in hM hx (y - 1) _ (by omega) a1 a2
    refine ⟨b3 ?_, b2⟩
    by_cases e : 1 ≤ y - 1
    · exact .inl e
    · exact .inr (a3 (.inl (by omega)))
/-- M solves the recurrence within W, H -/
def Rec (M : Nat → Nat → Int) (W H : Nat) : Prop := ∀ x y, 1 ≤ x → x ≤ W → 1 ≤ y → y ≤ H → M x y = stepV M x y
theorem downV_congr {M N : Nat → Nat → Int} {x y : Nat} (h : ∀ a, 1 ≤ a → a < x → M a y = N a y) : ∀ (k : Nat) (s : Int), k + 1 ≤ x → downV M x y k s = downV N x y k s
  | 0, _, _ => rfl
  | k + 1, s, hk => by
    simp only [downV]
    rw [downV_congr h k s (by omega), h (k + 1) (by omega) (by omega), h (x - (k + 1)) (by omega) (by omega)]
theorem acrossV_congr {M N : Nat → Nat → Int} {x y : Nat} (h : ∀ b, 1 ≤ b → b < y → M x b = N x b) : ∀ (k : Nat) (s : Int), k + 1 ≤ y → acrossV M x y k s = acrossV N x y k s
  | 0, _, _ => rfl
  | k + 1, s, hk => by
    simp only [acrossV]
    rw [acrossV_congr h k s (by omega), h (k + 1) (by omega) (by omega), h (y - (k + 1)) (by omega) (by omega)]
theorem stepV_congr {M N : Nat → Nat → Int} {x y : Nat} (hx : 1 ≤ x) (hy : 1 ≤ y) (h1 : ∀ a, 1 ≤ a → a < x → M a y = N a y) (h2 : ∀ b, 1 ≤ b → b < y → M x b = N x b) : stepV M x y = stepV N x y := by
  unfold stepV
  rw [downV_congr h1 (x - 1) 0 (by omega), acrossV_congr h2 (y - 1) _ (by omega)]
theorem rec_one {M N : Nat → Nat → Int} {W H : Nat} (hM : Rec M W H) (hN : Rec N W H) : ∀ (s x y : Nat), x + y ≤ s → 1 ≤ x → x ≤ W → 1 ≤ y → y ≤ H → M x y = N x y
  | 0, x, y, hs, hx, _, _, _ => by omega
  | s + 1, x, y, hs, hx, hxW, hy, hyH => by
    rw [hM x y hx hxW hy hyH, hN x y hx hxW hy hyH]
    exact stepV_congr hx hy (fun a h1 h2 => rec_one hM hN s a y (by omega) h1 (by omega) hy hyH) (fun b h1 h2 => rec_one hM hN s x b (by omega) hx hxW h1 (by omega))
theorem capS_min (s : Int) : min s 1000000000000001 = capS s := by unfold capS; split <;> omega


end Go.Proofs.Ythemmckchmpicaa
