/-
  Contract: the evenest halves of the program (evenHalves). Conditions: none.
-/
import Derived.Test.YtkijcpbjjbhnhaaHlvP
import Derived.Test.YtkijcpbjjbhnhaaChg
import Derived.DeepKeys
namespace Go.Proofs.Ytkijcpbjjbhnhaa
open Go.RowKit
set_option linter.unusedVariables false
set_option linter.unusedSimpArgs false

/-- what two have, as a value -/
abbrev ws4 (a b : Int) : Value := .agg #[.int .i64 a, .int .i64 b, .int .i64 0, .int .i64 0]
theorem ws_lits (a b : Int) (ha : (Lit.int .i64 a).wf = true) (hb : (Lit.int .i64 b).wf = true) : Try.prog.keyLits 3 52 (ws4 a b).cells.toList = some [.int .i64 a, .int .i64 b, .int .i64 0, .int .i64 0] := by
  have hi : Try.prog.underlying 3 = some (.int .i64) := by kernel_rfl
  have ci : Try.prog.cellsOf 3 = 1 := by kernel_rfl
  have h0 : (Lit.int .i64 0).wf = true := by decide
  have hc : Try.prog.cellsOf 52 = 4 := by kernel_rfl
  simp [Program.keyLits, Try.underlying52, hi, ci, hc, ha, hb, h0, Value.cells, List.range, List.range.loop]
theorem ws_formed (a b : Int) : (ws4 a b).formed Try.prog 52 = true := by
  have hc : Try.prog.cellsOf 52 = 4 := by kernel_rfl
  simp [Value.formed, Try.underlying52, hc]
theorem eqlb_ws (a b c d : Int) (w : World) (ha : (Lit.int .i64 a).wf = true) (hb : (Lit.int .i64 b).wf = true) (hc : (Lit.int .i64 c).wf = true) (hd : (Lit.int .i64 d).wf = true) : ∃ r : Bool, (binOp .eql 52 (ws4 a b) (ws4 c d)).run Try.prog w = .ok (.bool r) w ∧ (r = true ↔ a = c ∧ b = d) := by
  have hk : EqAt Try.prog (9997 + 3) 52 := run_equalIn_deep 9997 3 _ (by kernel_rfl)
  obtain ⟨r, h1, h2⟩ := hk w 3 3 (ws4 a b) (ws4 c d) _ _ (ws_formed a b) (ws_formed c d) (ws_lits a b ha hb) (ws_lits c d hc hd)
  refine ⟨r, ?_, ?_⟩
  · rw [run_eql_struct]
    have h3 : (Op.equalIn 10000 52 (ws4 a b) (ws4 c d)).run Try.prog w = .ok r w := h1
    rw [h3]; rfl
  · rw [h2]; simp
theorem eql_ws (a b c d : Int) (ha : (Lit.int .i64 a).wf = true) (hb : (Lit.int .i64 b).wf = true) (h : a = c) (h2 : b = d) (w : World) : (binOp .eql 52 (ws4 a b) (ws4 c d)).run Try.prog w = .ok (.bool true) w := by
  subst h h2
  obtain ⟨r, h1, h2⟩ := eqlb_ws a b a b w ha hb ha hb
  rw [h1, h2.2 ⟨rfl, rfl⟩]
theorem neq_ws (a b c d : Int) (ha : (Lit.int .i64 a).wf = true) (hb : (Lit.int .i64 b).wf = true) (hc : (Lit.int .i64 c).wf = true) (hd : (Lit.int .i64 d).wf = true) (h : ¬ a = c) (w : World) : (binOp .eql 52 (ws4 a b) (ws4 c d)).run Try.prog w = .ok (.bool false) w := by
  obtain ⟨r, h1, h2⟩ := eqlb_ws a b c d w ha hb hc hd
  rw [h1]
  cases r
  · rfl
  · exact absurd (h2.1 rfl).1 h

theorem own_newH (w : World) (e : TypeId) (z n : Nat) (cs : Array Value) (h : cs.size = n * z) (hn : n ≤ 1000000) {B : Nat} (hB : B ≤ w.heap.size) :
    (w.alloc (.cells cs e)).ownsRow B e z (.slice (some ⟨w.heap.size, 0, none⟩) n n) n cs.toList :=
  ⟨by simp [h], .inr ⟨w.heap.size, n, cs, rfl, hB, heap_alloc_new w _, Nat.le_refl _, by simp only [maxLen]; omega, h, by rw [List.take_of_length_le (by simp [h])]⟩⟩
/-- rows that are kept: the list of them in memory from one on, they themselves from another one on -/
def EvAt (w : World) (Bt Br : Nat) (v : Value) (n : Nat) (E : List (List Int)) : Prop := ∃ A C, w.ownsRow Bt 22 1 v n (ssCells A C (rowL E) n) ∧ ∀ i, i < n → w.ownsRow Br 3 1 (.slice (A i) (rowL E i).length (C i)) (rowL E i).length (intCells (rowL E i))
theorem EvAt.nil (w : World) (Bt Br : Nat) (E : List (List Int)) : EvAt w Bt Br (.slice none 0 0) 0 E := ⟨fun _ => none, fun _ => 0, World.ownsRow_nil _ _ _ _, fun i hi => absurd hi (by omega)⟩
theorem EvAt.later {w w' : World} {Bt Br n c : Nat} {A : Option Addr} {E : List (List Int)} (h : EvAt w Bt Br (.slice A n c) n E) {B : Nat} (hb : Below B w w') (hB : w.heap.size ≤ B) : EvAt w' Bt Br (.slice A n c) n E := by
  obtain ⟨AA, CC, h1, h2⟩ := h
  exact ⟨AA, CC, own_later h1 hb hB, fun i hi => own_later (h2 i hi) hb hB⟩
theorem EvAt.chg {w w' : World} {Bt Br n c : Nat} {A : Option Addr} {E : List (List Int)} (h : EvAt w Bt Br (.slice A n c) n E) {K : Nat → Prop} (hc : Chg K w w') (hK : ∀ i, K i → i < Bt ∧ i < Br) : EvAt w' Bt Br (.slice A n c) n E := by
  obtain ⟨AA, CC, h1, h2⟩ := h
  refine ⟨AA, CC, hc.own h1 (fun g hg hk => ?_), fun i hi => hc.own (h2 i hi) (fun g hg hk => ?_)⟩
  · have := (h1.lt g hg).1; have := hK g hk; omega
  · have := ((h2 i hi).lt g hg).1; have := hK g hk; omega
theorem EvAt.base {w : World} {Bt Br Bt' Br' n : Nat} {v : Value} {E : List (List Int)} (h : EvAt w Bt Br v n E) (h1 : Bt' ≤ Bt) (h2 : Br' ≤ Br) : EvAt w Bt' Br' v n E := by
  obtain ⟨AA, CC, h3, h4⟩ := h
  exact ⟨AA, CC, own_base h3 h1, fun i hi => own_base (h4 i hi) h2⟩
theorem EvAt.push {w w' : World} {Bt Br n c : Nat} {A a : Option Addr} {v' : Value} {E : List (List Int)} {l : List Int} {cl : Nat} (h : EvAt w Bt Br (.slice A n c) n E) (hE : E.length = n)
    (hw : w.ownsRow Br 3 1 (.slice a l.length cl) l.length (intCells l)) (hg : w.grownBy w' (Value.slice A n c).ownBlock)
    (ht : ∀ AA CC, w.ownsRow Bt 22 1 (.slice A n c) n (ssCells AA CC (rowL E) n) → w'.ownsRow Bt 22 1 v' (n + 1) (ssCells AA CC (rowL E) n ++ [.slice a l.length cl])) : EvAt w' Bt Br v' (n + 1) (E ++ [l]) := by
  obtain ⟨AA, CC, h1, h2⟩ := h
  refine ⟨fun i => if i = n then a else AA i, fun i => if i = n then cl else CC i, ?_, fun i hi => ?_⟩
  · have h3 := ht AA CC h1
    rw [ssCells_succ]
    have e : rowL (E ++ [l]) n = l := by rw [← rowL_snoc hE l n (by omega), if_pos rfl]
    simp only [if_true, e]
    rw [ssCells_congr (A' := AA) (C' := CC) (R' := rowL E) (fun i hi => by
      have e2 : rowL (E ++ [l]) i = rowL E i := by rw [← rowL_snoc hE l i (by omega), if_neg (by omega)]
      simp [show ¬ i = n by omega, e2])]
    exact h3
  · rw [← rowL_snoc hE l i hi]
    by_cases e : i = n
    · subst e
      simp only [if_true]
      exact hw.kept hg (own_types hw h1 (fun q => tt_ne q.symm))
    · simp only [if_neg e]
      exact (h2 i (by omega)).kept hg (own_types (h2 i (by omega)) h1 (fun q => tt_ne q.symm))
theorem EvAt.push2 {w w' : World} {Bt Br n c : Nat} {A a : Option Addr} {v' : Value} {E : List (List Int)} {l : List Int} {cl : Nat} {AA : Nat → Option Addr} {CC : Nat → Nat} (h1 : w.ownsRow Bt 22 1 (.slice A n c) n (ssCells AA CC (rowL E) n)) (h2 : ∀ i, i < n → w.ownsRow Br 3 1 (.slice (AA i) (rowL E i).length (CC i)) (rowL E i).length (intCells (rowL E i))) (hE : E.length = n)
    (hw : w.ownsRow Br 3 1 (.slice a l.length cl) l.length (intCells l)) (hg : w.grownBy w' (Value.slice A n c).ownBlock)
    (ht : w'.ownsRow Bt 22 1 v' (n + 1) (ssCells AA CC (rowL E) n ++ [.slice a l.length cl])) : EvAt w' Bt Br v' (n + 1) (E ++ [l]) := by
  refine ⟨fun i => if i = n then a else AA i, fun i => if i = n then cl else CC i, ?_, fun i hi => ?_⟩
  · have h3 := ht
    rw [ssCells_succ]
    have e : rowL (E ++ [l]) n = l := by rw [← rowL_snoc hE l n (by omega), if_pos rfl]
    simp only [if_true, e]
    rw [ssCells_congr (A' := AA) (C' := CC) (R' := rowL E) (fun i hi => by
      have e2 : rowL (E ++ [l]) i = rowL E i := by rw [← rowL_snoc hE l i (by omega), if_neg (by omega)]
      simp [show ¬ i = n by omega, e2])]
    exact h3
  · rw [← rowL_snoc hE l i hi]
    by_cases e : i = n
    · subst e
      simp only [if_true]
      exact hw.kept hg (own_types hw h1 (fun q => tt_ne q.symm))
    · simp only [if_neg e]
      exact (h2 i (by omega)).kept hg (own_types (h2 i (by omega)) h1 (fun q => tt_ne q.symm))

theorem chg_setH (g j : Nat) (w : World) (v : Value) : Chg (· = g) w (w.setCell ⟨g, j, none⟩ v) :=
  ⟨rfl, rfl, rfl, by simp, fun i hi hk => by
    simp only [World.setCell, Array.getElem?_modify]
    rw [if_neg (fun e => hk e.symm)]⟩
theorem set4_cells {w : World} {g : Nat} {u0 u1 u2 u3 v0 v1 v2 v3 : Value} (h0 : w.cell? ⟨g, 0, none⟩ = some u0) (h1 : w.cell? ⟨g, 1, none⟩ = some u1) (h2 : w.cell? ⟨g, 2, none⟩ = some u2) (h3 : w.cell? ⟨g, 3, none⟩ = some u3) :
    ((((w.setCell ⟨g, 0, none⟩ v0).setCell ⟨g, 1, none⟩ v1).setCell ⟨g, 2, none⟩ v2).setCell ⟨g, 3, none⟩ v3).cell? ⟨g, 0, none⟩ = some v0 ∧ ((((w.setCell ⟨g, 0, none⟩ v0).setCell ⟨g, 1, none⟩ v1).setCell ⟨g, 2, none⟩ v2).setCell ⟨g, 3, none⟩ v3).cell? ⟨g, 1, none⟩ = some v1 ∧ ((((w.setCell ⟨g, 0, none⟩ v0).setCell ⟨g, 1, none⟩ v1).setCell ⟨g, 2, none⟩ v2).setCell ⟨g, 3, none⟩ v3).cell? ⟨g, 2, none⟩ = some v2 ∧ ((((w.setCell ⟨g, 0, none⟩ v0).setCell ⟨g, 1, none⟩ v1).setCell ⟨g, 2, none⟩ v2).setCell ⟨g, 3, none⟩ v3).cell? ⟨g, 3, none⟩ = some v3 := by
  have o : ∀ (x : World) (a b : Nat) (v : Value), a ≠ b → (x.setCell ⟨g, a, none⟩ v).cell? ⟨g, b, none⟩ = x.cell? ⟨g, b, none⟩ := fun x a b v h => World.cell?_setCell_other _ _ _ _ (by intro e; injection e with _ e2 _; exact h e2)
  refine ⟨?_, ?_, ?_, ?_⟩
  · rw [o _ 3 0 _ (by omega), o _ 2 0 _ (by omega), o _ 1 0 _ (by omega)]; exact World.cell?_setCell_same _ _ _ h0
  · rw [o _ 3 1 _ (by omega), o _ 2 1 _ (by omega)]; exact World.cell?_setCell_same _ _ _ ((o _ 0 1 _ (by omega)).trans h1)
  · rw [o _ 3 2 _ (by omega)]; exact World.cell?_setCell_same _ _ _ ((o _ 1 2 _ (by omega)).trans ((o _ 0 2 _ (by omega)).trans h2))
  · exact World.cell?_setCell_same _ _ _ ((o _ 2 3 _ (by omega)).trans ((o _ 1 3 _ (by omega)).trans ((o _ 0 3 _ (by omega)).trans h3)))
theorem set4_far {g b : Nat} {v0 v1 v2 v3 : Value} (w : World) (h : b ≠ g) (j : Nat) : ((((w.setCell ⟨g, 0, none⟩ v0).setCell ⟨g, 1, none⟩ v1).setCell ⟨g, 2, none⟩ v2).setCell ⟨g, 3, none⟩ v3).cell? ⟨b, j, none⟩ = w.cell? ⟨b, j, none⟩ := by
  have o : ∀ (x : World) (a : Nat) (v : Value), (x.setCell ⟨g, a, none⟩ v).cell? ⟨b, j, none⟩ = x.cell? ⟨b, j, none⟩ := fun x a v => World.cell?_setCell_other _ _ _ _ (by intro e; injection e with e1 _ _; exact h e1.symm)
  rw [o, o, o, o]

/-- what stands after so many halves have been looked at -/
structure EvSt (w5 : World) (g7 Br : Nat) (W : List Int) (D : List (List Int)) (A' : Option Addr) (n' c' : Nat) (wr : World) : Prop where
  chg : Chg (· = g7) w5 wr
  ev : EvAt wr w5.heap.size Br (.slice A' n' c') n' (evenL W D)
  len : (evenL W D).length = n'
  c0 : wr.cell? ⟨g7, 0, none⟩ = some (.int .i64 (bkL W D))
  c1 : ∃ z, wr.cell? ⟨g7, 1, none⟩ = some (.int .i64 z) ∧ (D = [] ∨ z = W.sum - bkL W D)
  c2 : wr.cell? ⟨g7, 2, none⟩ = some (.int .i64 0)
  c3 : wr.cell? ⟨g7, 3, none⟩ = some (.int .i64 0)
  f : ∀ k, wr.frozen? ⟨g7, k, none⟩ = false
theorem EvSt.below {w5 : World} {g7 Br : Nat} {W : List Int} {D : List (List Int)} {A' : Option Addr} {n' c' : Nat} {wr wx : World} (h : EvSt w5 g7 Br W D A' n' c' wr) (hb : Below wr.heap.size wr wx) (hg : g7 < wr.heap.size) : EvSt w5 g7 Br W D A' n' c' wx := by
  obtain ⟨z, h1, h2⟩ := h.c1
  exact ⟨h.chg.trans (Chg.of_below hb (Nat.le_refl _)), h.ev.later hb (Nat.le_refl _), h.len, (hb.cell (p := ⟨g7, 0, none⟩) hg).trans h.c0, ⟨z, (hb.cell (p := ⟨g7, 1, none⟩) hg).trans h1, h2⟩, (hb.cell (p := ⟨g7, 2, none⟩) hg).trans h.c2, (hb.cell (p := ⟨g7, 3, none⟩) hg).trans h.c3, fun k => (hb.frozen (p := ⟨g7, k, none⟩) hg).trans (h.f k)⟩

def halvesP (n : Nat) : List (List Int) := extE (n - 1) 1 [0]
theorem halvesP_in {n : Nat} (hn : 1 ≤ n) : ∀ t ∈ halvesP n, ∀ z ∈ t, 0 ≤ z ∧ z < n := extE_in (by simp; omega) (by omega)
theorem halvesP_perm {n : Nat} (hn : 1 ≤ n) : (bitH n (2 ^ (n - 1))).Perm (halvesP n) := by
  have h := bitH_perm (n - 1)
  rw [show n - 1 + 1 = n by omega] at h
  exact h
theorem halvesP_mn {W : List Int} (h1 : 1 ≤ W.length) (hW : ∀ z ∈ W, 0 ≤ z) : ∀ h ∈ halvesP W.length, 0 ≤ mnH W h ∧ 0 ≤ wtsum W h ∧ wtsum W h ≤ W.sum := fun h hh => mnH_nonneg hW h ((halvesP_perm h1).mem_iff.2 hh)
theorem halvesP_len {n : Nat} (hn : n ≤ 12) : (halvesP n).length ≤ 2048 := by
  unfold halvesP
  rw [extE_len]
  exact Nat.le_trans (Nat.pow_le_pow_right (by omega) (show n - 1 ≤ 11 by omega)) (by decide)

set_option maxRecDepth 100000 in
set_option maxHeartbeats 8000000 in
theorem evenHalves_any (A : Option Addr) (n c : Nat) (W : List Int) (w : World) (hr : Rd w 1 A n (intCells W)) (hB : wtB W = true) :
    Calls Try.prog 49 #[.slice A n c] w fun e w' => ∃ A' n' c', e = .returned (.tuple #[.slice A' n' c', ws4 (bkL W (halvesP n)) (W.sum - bkL W (halvesP n))]) ∧ (evenL W (halvesP n)).length = n' ∧ EvAt w' w.heap.size w.heap.size (.slice A' n' c') n' (evenL W (halvesP n)) ∧ Below w.heap.size w w' := by
  obtain ⟨i1, hi1, hy0, hy1, hy2⟩ := info_parts ints_info
  obtain ⟨hW1, hW12, hW⟩ := wtB_true hB
  have hll := hr.ilen
  have HWZ : Hid (∀ z ∈ W, 0 ≤ z ∧ z ≤ 1000) := fun z hz => by have := hW z hz; omega
  have HLL := Lib.hid hll
  have hn1 : 1 ≤ n := by omega
  have hn12 : n ≤ 12 := by omega
  have hsum := sumW_bound HWZ.out
  have hs0 : 0 ≤ W.sum ∧ W.sum ≤ 12000 := by omega
  clear hW1 hW12 hW hll hsum hB
  have hbz : Below w.heap.size w (w.alloc (.cells #[.int .i64 0, .int .i64 0, .int .i64 0, .int .i64 0] 52)) := by (repeat (first | (with_reducible exact Below.refl _ _) | (with_reducible assumption) | (with_reducible refine Below.drew ?_) | ((with_reducible refine balloc ?_ _ ?_); · (first | (simp; done) | (simp; omega) | omega)) | ((with_reducible refine bset ?_ _ ?_); · (first | (simp; done) | (simp; omega) | omega)) | (with_reducible refine bdrewN _ ?_) | ((with_reducible refine bcall ?_ (by assumption) ?_); · (first | (simp; done) | (simp; omega) | omega))))
  have HBZ := Lib.hid hbz
  go_enter Try.func49, Try.ntmps49
  go_wp2_with fail
  refine (weigher_any A n c _).mono ?_; rintro e w1 ⟨⟨bw, rfl, cw1, lw1, lw2⟩, hb1⟩
  have s1 := hb1.size
  have CW1 := Lib.hid cw1
  have HB1 := Lib.hid (hbz.trans (hb1.mono (by simp)))
  have hb1s := hb1.size
  have RZ : Hid (w1.cell? ⟨w.heap.size, 0, none⟩ = some (.int .i64 0) ∧ w1.cell? ⟨w.heap.size, 1, none⟩ = some (.int .i64 0) ∧ w1.cell? ⟨w.heap.size, 2, none⟩ = some (.int .i64 0) ∧ w1.cell? ⟨w.heap.size, 3, none⟩ = some (.int .i64 0) ∧ ∀ k, w1.frozen? ⟨w.heap.size, k, none⟩ = false) := by
    refine ⟨?_, ?_, ?_, ?_, fun k => ?_⟩
    · exact (hb1.cell (p := ⟨w.heap.size, 0, none⟩) (by simp)).trans (by simp [go_sem])
    · exact (hb1.cell (p := ⟨w.heap.size, 1, none⟩) (by simp)).trans (by simp [go_sem])
    · exact (hb1.cell (p := ⟨w.heap.size, 2, none⟩) (by simp)).trans (by simp [go_sem])
    · exact (hb1.cell (p := ⟨w.heap.size, 3, none⟩) (by simp)).trans (by simp [go_sem])
    · exact (hb1.frozen (p := ⟨w.heap.size, k, none⟩) (by simp)).trans (by simp [go_sem])
  clear cw1 hb1
  have hR1 := hr.later HB1.out (Nat.le_refl _)
  go_wp2_with fail
  refine (sumOfW_any A n c W _ hR1 (by omega) HWZ.out).mono ?_; rintro e wx ⟨rfl, rfl⟩
  have hrec := addHalves_any (w1.alloc (.cells #[.int .i64 0, .int .i64 0, .int .i64 0, .int .i64 0] 52)) n hn12 (n - 1) 1 0 0 0 1 (w1.alloc (.cells #[.int .i64 0, .int .i64 0, .int .i64 0, .int .i64 0] 52)).heap.size none (some ⟨(w1.alloc (.cells #[.int .i64 0, .int .i64 0, .int .i64 0, .int .i64 0] 52)).heap.size, 0, none⟩) [] [0] ((w1.alloc (.cells #[.int .i64 0, .int .i64 0, .int .i64 0, .int .i64 0] 52)).alloc (.cells #[.int .i64 0] 3))
    (by omega) rfl (by have := Nat.pow_le_pow_right (show 0 < 2 by omega) (show n - 1 ≤ 11 by omega); omega) rfl (by omega) (by simp) (by omega) (OwnIn.of (OwnSS.nil _ _ _) |> fun h => by obtain ⟨AA, CC, h1, _⟩ := h; exact ⟨AA, CC, h1, fun i hi => absurd hi (by omega)⟩) (Nat.le_refl _) ((Below.refl _ _).alloc (Nat.le_refl _) _)
    (by have h := own_newH (w1.alloc (.cells #[.int .i64 0, .int .i64 0, .int .i64 0, .int .i64 0] 52)) 3 1 1 #[.int .i64 0] rfl (by omega) (B := (w1.alloc (.cells #[.int .i64 0, .int .i64 0, .int .i64 0, .int .i64 0] 52)).heap.size) (Nat.le_refl _); exact h)
  rw [List.nil_append] at hrec
  have hHP : extE (n - 1) 1 [0] = halvesP n := rfl
  rw [hHP] at hrec
  have hsz2 : (w1.alloc (.cells #[.int .i64 0, .int .i64 0, .int .i64 0, .int .i64 0] 52)).heap.size = w1.heap.size + 1 := by simp
  have BZ : Hid ((w1.alloc (.cells #[.int .i64 0, .int .i64 0, .int .i64 0, .int .i64 0] 52)).cell? ⟨w1.heap.size, 0, none⟩ = some (.int .i64 0) ∧ (w1.alloc (.cells #[.int .i64 0, .int .i64 0, .int .i64 0, .int .i64 0] 52)).cell? ⟨w1.heap.size, 1, none⟩ = some (.int .i64 0) ∧ (w1.alloc (.cells #[.int .i64 0, .int .i64 0, .int .i64 0, .int .i64 0] 52)).cell? ⟨w1.heap.size, 2, none⟩ = some (.int .i64 0) ∧ (w1.alloc (.cells #[.int .i64 0, .int .i64 0, .int .i64 0, .int .i64 0] 52)).cell? ⟨w1.heap.size, 3, none⟩ = some (.int .i64 0) ∧ ∀ k, (w1.alloc (.cells #[.int .i64 0, .int .i64 0, .int .i64 0, .int .i64 0] 52)).frozen? ⟨w1.heap.size, k, none⟩ = false) := by
    refine ⟨?_, ?_, ?_, ?_, fun k => ?_⟩ <;> simp [go_sem]
  have hb12 : Below w1.heap.size w1 (w1.alloc (.cells #[.int .i64 0, .int .i64 0, .int .i64 0, .int .i64 0] 52)) := (Below.refl _ _).alloc (Nat.le_refl _) _
  have HB12 := Lib.hid hb12
  rw [hsz2] at hrec
  have HREC2 := Lib.hid hrec
  clear hrec hHP hb12
  go_wp2_with fail
  refine HREC2.out.mono ?_; rintro e w5 ⟨Ad, N, cd, rfl, hlen, hss, _, hb5⟩
  have s5 := hb5.size
  have hg5 : w1.heap.size < w5.heap.size := by omega
  have BZ5 : Hid (w5.cell? ⟨w1.heap.size, 0, none⟩ = some (.int .i64 0) ∧ w5.cell? ⟨w1.heap.size, 1, none⟩ = some (.int .i64 0) ∧ w5.cell? ⟨w1.heap.size, 2, none⟩ = some (.int .i64 0) ∧ w5.cell? ⟨w1.heap.size, 3, none⟩ = some (.int .i64 0) ∧ ∀ k, w5.frozen? ⟨w1.heap.size, k, none⟩ = false) :=
    ⟨(hb5.cell (p := ⟨w1.heap.size, 0, none⟩) (by simp)).trans BZ.out.1, (hb5.cell (p := ⟨w1.heap.size, 1, none⟩) (by simp)).trans BZ.out.2.1, (hb5.cell (p := ⟨w1.heap.size, 2, none⟩) (by simp)).trans BZ.out.2.2.1, (hb5.cell (p := ⟨w1.heap.size, 3, none⟩) (by simp)).trans BZ.out.2.2.2.1, fun k => (hb5.frozen (p := ⟨w1.heap.size, k, none⟩) (by simp)).trans (BZ.out.2.2.2.2 k)⟩
  have hb15 : Below w1.heap.size w1 w5 := HB12.out.trans (hb5.mono (by simp))
  have CW5 := Lib.hid ((hb15.cell (p := ⟨bw, 0, none⟩) lw2).trans CW1.out)
  have HR5 := Lib.hid (hR1.later hb15 (Nat.le_refl _))
  have RZ5 : Hid (w5.cell? ⟨w.heap.size, 0, none⟩ = some (.int .i64 0) ∧ w5.cell? ⟨w.heap.size, 1, none⟩ = some (.int .i64 0) ∧ w5.cell? ⟨w.heap.size, 2, none⟩ = some (.int .i64 0) ∧ w5.cell? ⟨w.heap.size, 3, none⟩ = some (.int .i64 0) ∧ ∀ k, w5.frozen? ⟨w.heap.size, k, none⟩ = false) := by
    have hz : w.heap.size < w1.heap.size := by simp at hb1s; omega
    exact ⟨(hb15.cell (p := ⟨w.heap.size, 0, none⟩) hz).trans RZ.out.1, (hb15.cell (p := ⟨w.heap.size, 1, none⟩) hz).trans RZ.out.2.1, (hb15.cell (p := ⟨w.heap.size, 2, none⟩) hz).trans RZ.out.2.2.1, (hb15.cell (p := ⟨w.heap.size, 3, none⟩) hz).trans RZ.out.2.2.2.1, fun k => (hb15.frozen (p := ⟨w.heap.size, k, none⟩) hz).trans (RZ.out.2.2.2.2 k)⟩
  have hz1 : w.heap.size < w1.heap.size := by simp at hb1s; omega
  have HB5 := Lib.hid (HB1.out.trans (hb15.mono (by omega)))
  obtain ⟨AA, CC, ho⟩ := hss
  have HO := Lib.hid ho
  have HLEN := Lib.hid hlen
  have hN : N ≤ 2048 := by have := halvesP_len hn12; omega
  have hrA : ∀ b o, A = some ⟨b, o, none⟩ → b < w1.heap.size := fun b o e => by
    obtain ⟨b', o', e', h1, _⟩ := hr.2 (by omega)
    rw [e] at e'; injection e' with e'; injection e' with e1 e2; subst e1 e2; omega
  have HRA := Lib.hid hrA
  have HSTART : Hid (EvSt w5 w1.heap.size (w1.heap.size + 1) W ((halvesP n).take 0) none 0 0 w5) :=
    ⟨Chg.refl _ _, EvAt.nil _ _ _ _, rfl, BZ5.out.1, ⟨0, BZ5.out.2.1, .inl (by simp)⟩, BZ5.out.2.2.1, BZ5.out.2.2.2.1, BZ5.out.2.2.2.2⟩
  clear hb5 hb15 ho hlen hrA hr hR1 BZ BZ5 RZ HREC2 HB12 HBZ hbz s5 s1
  have hwl : w1.heap.size < w5.heap.size := hg5
  clear lw1 hb1s hsz2
  generalize w1.heap.size = g7 at *
  go_wp2
  go_loopw [6, 21] (fun ev i wr => ∃ (k : Nat) (A' : Option Addr) (n' c' : Nat), k ≤ N ∧ i = .int .i64 (k : Int) ∧ ev = .slice A' n' c' ∧ EvSt w5 g7 (g7 + 1) W ((halvesP n).take k) A' n' c' wr) (fun _ i _ => N - (intOf i).toNat)
  case atStart => exact ⟨0, none, 0, 0, Nat.zero_le _, rfl, rfl, HSTART.out⟩
  case round =>
    clear HSTART
    obtain ⟨k, A', n', c', hk, rfl, rfl, hK⟩ := hrel
    by_cases hlt : k < N
    · have HK := Lib.hid hK
      have htop := hK.chg.own HO.out.top (fun g hg => by have := (HO.out.top.lt g hg).1; omega)
      have hrow := hK.chg.own (HO.out.row k hlt) (fun g hg => by have := ((HO.out.row k hlt).lt g hg).1; omega)
      have hcw := hK.chg.cell CW5.out (by show ¬ bw = g7; omega)
      have hrw := hK.chg.rd HR5.out (fun b o e => by have := HRA.out b o e; show ¬ b = g7; omega)
      have hkH : k < (halvesP n).length := by rw [HLEN.out]; exact hlt
      have hh := halvesP_mn (W := W) (by have := HLL.out; omega) (fun z hz => (HWZ.out z hz).1)
      rw [HLL.out] at hh
      have eR : rowL (halvesP n) k = (halvesP n)[k] := by unfold rowL; rw [List.getD_eq_getElem?_getD, List.getElem?_eq_getElem hkH]; rfl
      have hmem : rowL (halvesP n) k ∈ halvesP n := by rw [eR]; exact List.getElem_mem _
      have hm1 := hh _ hmem
      have hrlen : (rowL (halvesP n) k).length ≤ 12 := by
        have := extE_short (n - 1) 1 [0] _ hmem; simp at this; omega
      have HW := Lib.hid (weigh_any (AA k) (rowL (halvesP n) k).length (CC k) (rowL (halvesP n) k) A n c W bw wr (Rd.of_own hrow) (by omega) hcw hrw HWZ.out (fun z hz => by have h := halvesP_in hn1 _ hmem z hz; have := HLL.out; omega) (by omega))
      have HT : Hid ((halvesP n).take (k + 1) = (halvesP n).take k ++ [rowL (halvesP n) k]) := by simp only [Hid]; rw [List.take_succ_eq_append_getElem hkH, eR]
      obtain ⟨bt, ot, et, hbt, hct⟩ := (Rd.of_own htop).2 (by omega)
      have p1 := hct k _ (ssCells_at hlt)
      subst et
      have HROW := Lib.hid hrow
      have HMN : Hid (mnH W (rowL (halvesP n) k) = min (wtsum W (rowL (halvesP n) k)) (W.sum - wtsum W (rowL (halvesP n) k))) := rfl
      have HNE : Hid (n' = 0 → (halvesP n).take k = []) := fun h0 => by
        by_cases e : (halvesP n).take k = []
        · exact e
        · have h1 := evenL_ne (W := W) e (fun t ht => (hh t (List.mem_of_mem_take ht)).1)
          have h2 := HK.out.len
          rw [h0] at h2
          exact absurd (List.length_eq_zero_iff.1 h2) h1
      have HC0 := Lib.hid hK.c0
      obtain ⟨z1, hz1c, hz1e⟩ := hK.c1
      have HZ1E := Lib.hid hz1e
      have c0 := hK.c0
      have c2 := hK.c2
      have c3 := hK.c3
      have f0 := hK.f 0
      have f1 := hK.f 1
      have f2 := hK.f 2
      have f3 := hK.f 3
      have hbk0 := bkL_nonneg W ((halvesP n).take k)
      have hwr : g7 < wr.heap.size := by have := hK.chg.size; omega
      clear htop hrow hcw hrw hct hK hh hmem eR hz1e hkH
      generalize hq1 : (rowL (halvesP n) k).length = q at *
      generalize hq2 : wtsum W (rowL (halvesP n) k) = s at *
      generalize hq3 : mnH W (rowL (halvesP n) k) = mn at *
      generalize hq4 : W.sum = all at *
      generalize hq5 : bkL W ((halvesP n).take k) = bk at *
      have HQ1 := Lib.hid hq1
      have HMNQ := Lib.hid hq3
      have HALL := Lib.hid hq4
      have HBK := Lib.hid hq5
      clear hq1 hq2 hq3 hq4 hq5
      obtain ⟨hm0, hs1, hs2⟩ := hm1
      go_wp2_with fail
      refine HW.out.mono ?_; rintro e wx ⟨rfl, rfl⟩
      by_cases hsa : s < all - s
      · have hca : (all - s < s) = False := by simp; omega
        have hcb : (all - s ≤ s) = False := by simp; omega
        have hmv : mn = s := by rw [HMN.out]; omega
        have hl1 : 0 ≤ s ∧ s ≤ 20000 := by omega
        have hl2 : 0 ≤ all - s ∧ all - s ≤ 20000 := by omega
        have hl3 : all - s = all - mn := by omega
        have HL3 := Lib.hid hl3
        have HMV := Lib.hid hmv
        clear hl3
        have wf1 : (Lit.int .i64 (s)).wf = true := WalkArith.wf_i64 (by omega)
        have wf2 : (Lit.int .i64 (all - s)).wf = true := WalkArith.wf_i64 (by omega)
        have HEQ := Lib.hid (fun wx => eql_ws (s) (all - s) (s) (all - s) wf1 wf2 rfl rfl wx)
        have hbA : Below wr.heap.size wr (wr.alloc (.cells #[.int .i64 (s), .int .i64 (all - s), .int .i64 0, .int .i64 0] 52)) := (Below.refl _ _).alloc (Nat.le_refl _) _
        have EA := Lib.hid (HK.out.below hbA hwr)
        have ROWA := Lib.hid (own_later HROW.out hbA (Nat.le_refl _))
        have a0 : (wr.alloc (.cells #[.int .i64 (s), .int .i64 (all - s), .int .i64 0, .int .i64 0] 52)).cell? ⟨wr.heap.size, 0, none⟩ = some (.int .i64 (s)) := by simp [go_sem]
        have a1 : (wr.alloc (.cells #[.int .i64 (s), .int .i64 (all - s), .int .i64 0, .int .i64 0] 52)).cell? ⟨wr.heap.size, 1, none⟩ = some (.int .i64 (all - s)) := by simp [go_sem]
        have a2 : (wr.alloc (.cells #[.int .i64 (s), .int .i64 (all - s), .int .i64 0, .int .i64 0] 52)).cell? ⟨wr.heap.size, 2, none⟩ = some (.int .i64 0) := by simp [go_sem]
        have a3 : (wr.alloc (.cells #[.int .i64 (s), .int .i64 (all - s), .int .i64 0, .int .i64 0] 52)).cell? ⟨wr.heap.size, 3, none⟩ = some (.int .i64 0) := by simp [go_sem]
        have hgA : wr.heap.size < (wr.alloc (.cells #[.int .i64 (s), .int .i64 (all - s), .int .i64 0, .int .i64 0] 52)).heap.size := by simp
        have hnk : n' ≤ k := by
          have h := HK.out.len
          have h2 : (evenL W ((halvesP n).take k)).length ≤ ((halvesP n).take k).length := by unfold evenL; exact List.length_filter_le _ _
          rw [List.length_take] at h2
          omega
        clear hmv hbA
        by_cases hre : n' = 0 ∨ bk < s
        · have HEV : Hid (evenL W ((halvesP n).take (k + 1)) = [rowL (halvesP n) k] ∧ bkL W ((halvesP n).take (k + 1)) = s) := by
            have hb := HBK.out
            have hq := HMNQ.out
            have hm := HMV.out
            by_cases hlt2 : bk < s
            · refine ⟨by rw [HT.out]; exact evenL_more (by rw [hb, hq, hm]; exact hlt2), ?_⟩
              rw [HT.out, bkL_snoc, hb, hq, hm]; omega
            · have h0 := HNE.out (by omega)
              rw [HT.out, h0, List.nil_append]
              rw [h0] at hb
              have hb0 : bk = 0 := by rw [← hb]; rfl
              refine ⟨?_, ?_⟩
              · have e : mnH W (rowL (halvesP n) k) = bkL W [] := by rw [hq, hm]; show s = 0; omega
                have := evenL_same (W := W) (L := []) (h := rowL (halvesP n) k) e
                simpa [evenL] using this
              · have := bkL_snoc W [] (rowL (halvesP n) k)
                rw [List.nil_append] at this
                rw [this, hq, hm]; show max 0 (s) = s; omega
          have TAIL : Hid (∀ wS : World, Chg (· = g7) w5 wS → wS.cell? ⟨g7, 0, none⟩ = some (.int .i64 (s)) → wS.cell? ⟨g7, 1, none⟩ = some (.int .i64 (all - s)) → wS.cell? ⟨g7, 2, none⟩ = some (.int .i64 0) → wS.cell? ⟨g7, 3, none⟩ = some (.int .i64 0) → (∀ j, wS.frozen? ⟨g7, j, none⟩ = false) → wS.ownsRow (g7 + 1) 3 1 (.slice (AA k) q (CC k)) q (intCells (rowL (halvesP n) k)) →
              ∀ (o : Obj) (v' : Value) (w' : World) (A2 : Option Addr) (c2 : Nat), v' = .slice A2 1 c2 → w'.ownsRow w5.heap.size 22 1 v' (0 + 1) (ssCells (fun _ => none) (fun _ => 0) (rowL []) 0 ++ [.slice (AA k) q (CC k)]) → (wS.alloc o).grownBy w' none → EvSt w5 g7 (g7 + 1) W ((halvesP n).take (k + 1)) A2 1 c2 w') := by
            intro wS hch h0 h1 h2 h3 hf hro o v' w' A2 c2 hv hown hgr
            subst hv
            have hba : Below wS.heap.size wS w' := gb_new (Nat.le_refl _) ((Below.refl wS.heap.size wS).alloc (Nat.le_refl _) o) hgr (fun g hg => by cases hg)
            have hgs : g7 < wS.heap.size := by have := hch.size; omega
            have hq1' := HQ1.out
            refine ⟨hch.trans (Chg.of_below hba (Nat.le_refl _)), ?_, by rw [HEV.out.1]; rfl, by rw [HEV.out.2]; exact (hba.cell (p := ⟨g7, 0, none⟩) hgs).trans h0, ⟨all - s, (hba.cell (p := ⟨g7, 1, none⟩) hgs).trans h1, .inr (by rw [HEV.out.2, HALL.out]; try (have a := HL3.out; have b := HMV.out; omega))⟩, (hba.cell (p := ⟨g7, 2, none⟩) hgs).trans h2, (hba.cell (p := ⟨g7, 3, none⟩) hgs).trans h3, fun j => (hba.frozen (p := ⟨g7, j, none⟩) hgs).trans (hf j)⟩
            rw [HEV.out.1]
            have hp : EvAt w' w5.heap.size (g7 + 1) (.slice A2 1 c2) (0 + 1) ([] ++ [rowL (halvesP n) k]) := (EvAt.nil (wS.alloc o) w5.heap.size (g7 + 1) []).push rfl (by rw [hq1']; exact own_later hro ((Below.refl wS.heap.size wS).alloc (Nat.le_refl _) o) (Nat.le_refl _)) hgr (fun A0 C0 _ => by rw [hq1']; exact hown)
            exact hp
          by_cases hn0 : n' = 0
          · subst hn0
            go_wp2
            have c0A := EA.out.c0
            obtain ⟨zA, c1A, _⟩ := EA.out.c1
            have c2A := EA.out.c2
            have c3A := EA.out.c3
            have f0A := EA.out.f
            clear c0 hz1c c2 c3 f0 f1 f2 f3 p1
            generalize wr.alloc (.cells #[.int .i64 (s), .int .i64 (all - s), .int .i64 0, .int .i64 0] 52) = wA at *
            generalize wr.heap.size = gA at *
            have g0A := f0A 0
            have g1A := f0A 1
            have g2A := f0A 2
            have g3A := f0A 3
            have HF0A := Lib.hid f0A
            clear f0A
            go_still_tail 2, (by kernel_rfl)
            change wpList _ _ _ _ _ wA.drew
            have d0 : wA.drew.cell? ⟨g7, 0, none⟩ = some (.int .i64 (bkL W ((halvesP n).take k))) := c0A
            have d1 : wA.drew.cell? ⟨g7, 1, none⟩ = some (.int .i64 zA) := c1A
            have d2 : wA.drew.cell? ⟨g7, 2, none⟩ = some (.int .i64 0) := c2A
            have d3 : wA.drew.cell? ⟨g7, 3, none⟩ = some (.int .i64 0) := c3A
            have e0 : wA.drew.cell? ⟨gA, 0, none⟩ = some (.int .i64 (s)) := a0
            have e1 : wA.drew.cell? ⟨gA, 1, none⟩ = some (.int .i64 (all - s)) := a1
            have e2 : wA.drew.cell? ⟨gA, 2, none⟩ = some (.int .i64 0) := a2
            have e3 : wA.drew.cell? ⟨gA, 3, none⟩ = some (.int .i64 0) := a3
            have k0 : wA.drew.frozen? ⟨g7, 0, none⟩ = false := g0A
            have k1 : wA.drew.frozen? ⟨g7, 1, none⟩ = false := g1A
            have k2 : wA.drew.frozen? ⟨g7, 2, none⟩ = false := g2A
            have k3 : wA.drew.frozen? ⟨g7, 3, none⟩ = false := g3A
            have KF : Hid (∀ j, wA.drew.frozen? ⟨g7, j, none⟩ = false) := fun j => HF0A.out j
            have hgAd : gA < wA.drew.heap.size := hgA
            have CHD : Hid (Chg (· = g7) w5 wA.drew) := EA.out.chg.trans (Chg.of_below (Below.refl wA.heap.size wA).drew (Nat.le_refl _))
            have ROWD : Hid (wA.drew.ownsRow (g7 + 1) 3 1 (.slice (AA k) q (CC k)) q (intCells (rowL (halvesP n) k))) := own_later ROWA.out (Below.refl wA.heap.size wA).drew (Nat.le_refl _)
            clear c0A c1A c2A c3A a0 a1 a2 a3 g0A g1A g2A g3A HF0A hgA EA ROWA HK
            generalize wA.drew = wd at *
            have hne7 : gA ≠ g7 := by omega
            have CHS : Hid (Chg (· = g7) w5 ((((wd.setCell ⟨g7, 0, none⟩ (.int .i64 (s))).setCell ⟨g7, 1, none⟩ (.int .i64 (all - s))).setCell ⟨g7, 2, none⟩ (.int .i64 0)).setCell ⟨g7, 3, none⟩ (.int .i64 0))) :=
              (((CHD.out.trans (chg_setH g7 0 _ _)).trans (chg_setH g7 1 _ _)).trans (chg_setH g7 2 _ _)).trans (chg_setH g7 3 _ _)
            have ROWS : Hid (((((wd.setCell ⟨g7, 0, none⟩ (.int .i64 (s))).setCell ⟨g7, 1, none⟩ (.int .i64 (all - s))).setCell ⟨g7, 2, none⟩ (.int .i64 0)).setCell ⟨g7, 3, none⟩ (.int .i64 0)).ownsRow (g7 + 1) 3 1 (.slice (AA k) q (CC k)) q (intCells (rowL (halvesP n) k))) :=
              ((((chg_setH g7 0 _ _).trans (chg_setH g7 1 _ _)).trans (chg_setH g7 2 _ _)).trans (chg_setH g7 3 _ _)).own ROWD.out (fun g hg => by have := (ROWD.out.lt g hg).1; show ¬ g = g7; omega)
            obtain ⟨C0, C1, C2, C3⟩ := set4_cells (g := g7) (v0 := .int .i64 (s)) (v1 := .int .i64 (all - s)) (v2 := .int .i64 0) (v3 := .int .i64 0) d0 d1 d2 d3
            have E0 := (set4_far (g := g7) (v0 := .int .i64 (s)) (v1 := .int .i64 (all - s)) (v2 := .int .i64 0) (v3 := .int .i64 0) wd hne7 0).trans e0
            have E1 := (set4_far (g := g7) (v0 := .int .i64 (s)) (v1 := .int .i64 (all - s)) (v2 := .int .i64 0) (v3 := .int .i64 0) wd hne7 1).trans e1
            have E2 := (set4_far (g := g7) (v0 := .int .i64 (s)) (v1 := .int .i64 (all - s)) (v2 := .int .i64 0) (v3 := .int .i64 0) wd hne7 2).trans e2
            have E3 := (set4_far (g := g7) (v0 := .int .i64 (s)) (v1 := .int .i64 (all - s)) (v2 := .int .i64 0) (v3 := .int .i64 0) wd hne7 3).trans e3
            have KS : Hid (∀ j, ((((wd.setCell ⟨g7, 0, none⟩ (.int .i64 (s))).setCell ⟨g7, 1, none⟩ (.int .i64 (all - s))).setCell ⟨g7, 2, none⟩ (.int .i64 0)).setCell ⟨g7, 3, none⟩ (.int .i64 0)).frozen? ⟨g7, j, none⟩ = false) := fun j => by
              rw [World.frozen?_setCell, World.frozen?_setCell, World.frozen?_setCell, World.frozen?_setCell]; exact KF.out j
            have hsz5 : w5.heap.size ≤ wd.heap.size := CHD.out.size
            have hnw := new1 ((((wd.setCell ⟨g7, 0, none⟩ (.int .i64 (s))).setCell ⟨g7, 1, none⟩ (.int .i64 (all - s))).setCell ⟨g7, 2, none⟩ (.int .i64 0)).setCell ⟨g7, 3, none⟩ (.int .i64 0)) 22 (.slice (AA k) q (CC k))
            rw [show ((((wd.setCell ⟨g7, 0, none⟩ (.int .i64 (s))).setCell ⟨g7, 1, none⟩ (.int .i64 (all - s))).setCell ⟨g7, 2, none⟩ (.int .i64 0)).setCell ⟨g7, 3, none⟩ (.int .i64 0)).heap.size = wd.heap.size by simp] at hnw
            have hnil := World.ownsRow_nil (((((wd.setCell ⟨g7, 0, none⟩ (.int .i64 (s))).setCell ⟨g7, 1, none⟩ (.int .i64 (all - s))).setCell ⟨g7, 2, none⟩ (.int .i64 0)).setCell ⟨g7, 3, none⟩ (.int .i64 0)).alloc (.cells #[.slice (AA k) q (CC k)] 22)) w5.heap.size 22 1
            have HNIL := Lib.hid hnil
            have hbs : w5.heap.size ≤ (((((wd.setCell ⟨g7, 0, none⟩ (.int .i64 (s))).setCell ⟨g7, 1, none⟩ (.int .i64 (all - s))).setCell ⟨g7, 2, none⟩ (.int .i64 0)).setCell ⟨g7, 3, none⟩ (.int .i64 0)).alloc (.cells #[.slice (AA k) q (CC k)] 22)).heap.size := by simp; omega
            have CC0 := Lib.hid C0
            have CC1 := Lib.hid C1
            have CC2 := Lib.hid C2
            have CC3 := Lib.hid C3
            have heq := HEQ.out
            have hc3 : 0 + 1 ≤ maxLen := by simp only [maxLen]; omega
            clear hnil KF CHD ROWD
            go_wp2_with (at_builtin; refine wpList_append_own_at _ rfl (.tmp 53) (.tmp 55) 50 rfl w5.heap.size 22 i1 (.slice none 0 0) 1 24 Try.underlying50 hi1 hy0 hy1 hy2 rfl (by decide) _ _ _ rfl HNIL.out ⟨wd.heap.size, 0, none⟩ 1 1 [.slice (AA k) q (CC k)] rfl rfl hnw (by intro u hu; simp at hu; subst hu; rfl) hc3 (by omega) hbs ?_)
            intro v' w9 hown hgrow _ _
            obtain ⟨A2, c2, rfl⟩ := own_slice hown
            have HNEW := Lib.hid (TAIL.out _ CHS.out CC0.out CC1.out CC2.out CC3.out KS.out ROWS.out _ _ w9 A2 c2 rfl hown hgrow)
            clear hown hgrow TAIL CHS KS ROWS CC0 CC1 CC2 CC3 C0 C1 C2 C3 E0 E1 E2 E3 d0 d1 d2 d3 e0 e1 e2 e3 k0 k1 k2 k3
            go_wp2
            go_roundw
            case rel => exact ⟨k + 1, A2, 1, c2, by omega, by go_num, rfl, HNEW.out⟩
            case measure => simp [intOf]; omega
          · have hlt2 : bk < s := by omega
            have hne0 : ((n' : Int) == 0) = false := by simp; exact hn0
            have hd : decide (bk < s) = true := by simp; omega
            have cbk : (wr.alloc (.cells #[.int .i64 (s), .int .i64 (all - s), .int .i64 0, .int .i64 0] 52)).cell? ⟨g7, 0, none⟩ = some (.int .i64 bk) := by have h := EA.out.c0; rw [HBK.out] at h; exact h
            go_wp2
            have c0A := EA.out.c0
            obtain ⟨zA, c1A, _⟩ := EA.out.c1
            have c2A := EA.out.c2
            have c3A := EA.out.c3
            have f0A := EA.out.f
            clear cbk c0 hz1c c2 c3 f0 f1 f2 f3 p1
            generalize wr.alloc (.cells #[.int .i64 (s), .int .i64 (all - s), .int .i64 0, .int .i64 0] 52) = wA at *
            generalize wr.heap.size = gA at *
            have g0A := f0A 0
            have g1A := f0A 1
            have g2A := f0A 2
            have g3A := f0A 3
            have HF0A := Lib.hid f0A
            clear f0A
            go_still_tail 2, (by kernel_rfl)
            change wpList _ _ _ _ _ wA.drew
            have d0 : wA.drew.cell? ⟨g7, 0, none⟩ = some (.int .i64 (bkL W ((halvesP n).take k))) := c0A
            have d1 : wA.drew.cell? ⟨g7, 1, none⟩ = some (.int .i64 zA) := c1A
            have d2 : wA.drew.cell? ⟨g7, 2, none⟩ = some (.int .i64 0) := c2A
            have d3 : wA.drew.cell? ⟨g7, 3, none⟩ = some (.int .i64 0) := c3A
            have e0 : wA.drew.cell? ⟨gA, 0, none⟩ = some (.int .i64 (s)) := a0
            have e1 : wA.drew.cell? ⟨gA, 1, none⟩ = some (.int .i64 (all - s)) := a1
            have e2 : wA.drew.cell? ⟨gA, 2, none⟩ = some (.int .i64 0) := a2
            have e3 : wA.drew.cell? ⟨gA, 3, none⟩ = some (.int .i64 0) := a3
            have k0 : wA.drew.frozen? ⟨g7, 0, none⟩ = false := g0A
            have k1 : wA.drew.frozen? ⟨g7, 1, none⟩ = false := g1A
            have k2 : wA.drew.frozen? ⟨g7, 2, none⟩ = false := g2A
            have k3 : wA.drew.frozen? ⟨g7, 3, none⟩ = false := g3A
            have KF : Hid (∀ j, wA.drew.frozen? ⟨g7, j, none⟩ = false) := fun j => HF0A.out j
            have hgAd : gA < wA.drew.heap.size := hgA
            have CHD : Hid (Chg (· = g7) w5 wA.drew) := EA.out.chg.trans (Chg.of_below (Below.refl wA.heap.size wA).drew (Nat.le_refl _))
            have ROWD : Hid (wA.drew.ownsRow (g7 + 1) 3 1 (.slice (AA k) q (CC k)) q (intCells (rowL (halvesP n) k))) := own_later ROWA.out (Below.refl wA.heap.size wA).drew (Nat.le_refl _)
            clear c0A c1A c2A c3A a0 a1 a2 a3 g0A g1A g2A g3A HF0A hgA EA ROWA HK
            generalize wA.drew = wd at *
            have hne7 : gA ≠ g7 := by omega
            have CHS : Hid (Chg (· = g7) w5 ((((wd.setCell ⟨g7, 0, none⟩ (.int .i64 (s))).setCell ⟨g7, 1, none⟩ (.int .i64 (all - s))).setCell ⟨g7, 2, none⟩ (.int .i64 0)).setCell ⟨g7, 3, none⟩ (.int .i64 0))) :=
              (((CHD.out.trans (chg_setH g7 0 _ _)).trans (chg_setH g7 1 _ _)).trans (chg_setH g7 2 _ _)).trans (chg_setH g7 3 _ _)
            have ROWS : Hid (((((wd.setCell ⟨g7, 0, none⟩ (.int .i64 (s))).setCell ⟨g7, 1, none⟩ (.int .i64 (all - s))).setCell ⟨g7, 2, none⟩ (.int .i64 0)).setCell ⟨g7, 3, none⟩ (.int .i64 0)).ownsRow (g7 + 1) 3 1 (.slice (AA k) q (CC k)) q (intCells (rowL (halvesP n) k))) :=
              ((((chg_setH g7 0 _ _).trans (chg_setH g7 1 _ _)).trans (chg_setH g7 2 _ _)).trans (chg_setH g7 3 _ _)).own ROWD.out (fun g hg => by have := (ROWD.out.lt g hg).1; show ¬ g = g7; omega)
            obtain ⟨C0, C1, C2, C3⟩ := set4_cells (g := g7) (v0 := .int .i64 (s)) (v1 := .int .i64 (all - s)) (v2 := .int .i64 0) (v3 := .int .i64 0) d0 d1 d2 d3
            have E0 := (set4_far (g := g7) (v0 := .int .i64 (s)) (v1 := .int .i64 (all - s)) (v2 := .int .i64 0) (v3 := .int .i64 0) wd hne7 0).trans e0
            have E1 := (set4_far (g := g7) (v0 := .int .i64 (s)) (v1 := .int .i64 (all - s)) (v2 := .int .i64 0) (v3 := .int .i64 0) wd hne7 1).trans e1
            have E2 := (set4_far (g := g7) (v0 := .int .i64 (s)) (v1 := .int .i64 (all - s)) (v2 := .int .i64 0) (v3 := .int .i64 0) wd hne7 2).trans e2
            have E3 := (set4_far (g := g7) (v0 := .int .i64 (s)) (v1 := .int .i64 (all - s)) (v2 := .int .i64 0) (v3 := .int .i64 0) wd hne7 3).trans e3
            have KS : Hid (∀ j, ((((wd.setCell ⟨g7, 0, none⟩ (.int .i64 (s))).setCell ⟨g7, 1, none⟩ (.int .i64 (all - s))).setCell ⟨g7, 2, none⟩ (.int .i64 0)).setCell ⟨g7, 3, none⟩ (.int .i64 0)).frozen? ⟨g7, j, none⟩ = false) := fun j => by
              rw [World.frozen?_setCell, World.frozen?_setCell, World.frozen?_setCell, World.frozen?_setCell]; exact KF.out j
            have hsz5 : w5.heap.size ≤ wd.heap.size := CHD.out.size
            have hnw := new1 ((((wd.setCell ⟨g7, 0, none⟩ (.int .i64 (s))).setCell ⟨g7, 1, none⟩ (.int .i64 (all - s))).setCell ⟨g7, 2, none⟩ (.int .i64 0)).setCell ⟨g7, 3, none⟩ (.int .i64 0)) 22 (.slice (AA k) q (CC k))
            rw [show ((((wd.setCell ⟨g7, 0, none⟩ (.int .i64 (s))).setCell ⟨g7, 1, none⟩ (.int .i64 (all - s))).setCell ⟨g7, 2, none⟩ (.int .i64 0)).setCell ⟨g7, 3, none⟩ (.int .i64 0)).heap.size = wd.heap.size by simp] at hnw
            have hnil := World.ownsRow_nil (((((wd.setCell ⟨g7, 0, none⟩ (.int .i64 (s))).setCell ⟨g7, 1, none⟩ (.int .i64 (all - s))).setCell ⟨g7, 2, none⟩ (.int .i64 0)).setCell ⟨g7, 3, none⟩ (.int .i64 0)).alloc (.cells #[.slice (AA k) q (CC k)] 22)) w5.heap.size 22 1
            have HNIL := Lib.hid hnil
            have hbs : w5.heap.size ≤ (((((wd.setCell ⟨g7, 0, none⟩ (.int .i64 (s))).setCell ⟨g7, 1, none⟩ (.int .i64 (all - s))).setCell ⟨g7, 2, none⟩ (.int .i64 0)).setCell ⟨g7, 3, none⟩ (.int .i64 0)).alloc (.cells #[.slice (AA k) q (CC k)] 22)).heap.size := by simp; omega
            have CC0 := Lib.hid C0
            have CC1 := Lib.hid C1
            have CC2 := Lib.hid C2
            have CC3 := Lib.hid C3
            have heq := HEQ.out
            have hc3 : 0 + 1 ≤ maxLen := by simp only [maxLen]; omega
            clear hnil KF CHD ROWD
            go_wp2_with (at_builtin; refine wpList_append_own_at _ rfl (.tmp 53) (.tmp 55) 50 rfl w5.heap.size 22 i1 (.slice none 0 0) 1 24 Try.underlying50 hi1 hy0 hy1 hy2 rfl (by decide) _ _ _ rfl HNIL.out ⟨wd.heap.size, 0, none⟩ 1 1 [.slice (AA k) q (CC k)] rfl rfl hnw (by intro u hu; simp at hu; subst hu; rfl) hc3 (by omega) hbs ?_)
            intro v' w9 hown hgrow _ _
            obtain ⟨A2, c2, rfl⟩ := own_slice hown
            have HNEW := Lib.hid (TAIL.out _ CHS.out CC0.out CC1.out CC2.out CC3.out KS.out ROWS.out _ _ w9 A2 c2 rfl hown hgrow)
            clear hown hgrow TAIL CHS KS ROWS CC0 CC1 CC2 CC3 C0 C1 C2 C3 E0 E1 E2 E3 d0 d1 d2 d3 e0 e1 e2 e3 k0 k1 k2 k3
            go_wp2
            go_roundw
            case rel => exact ⟨k + 1, A2, 1, c2, by omega, by go_num, rfl, HNEW.out⟩
            case measure => simp [intOf]; omega
        · have hn0 : ¬ n' = 0 := fun h => hre (.inl h)
          have hle : s ≤ bk := by have h9 : ¬ bk < s := fun h => hre (.inr h); omega
          have hDne : ¬ (halvesP n).take k = [] := fun e => by
            have h := HK.out.len
            rw [e] at h
            exact hn0 (by rw [← h]; rfl)
          have hz1v : z1 = all - bk := by
            rcases HZ1E.out with e | e
            · exact absurd e hDne
            · exact e
          have hbk12 : bk ≤ 20000 := by
            rcases bkL_att W ((halvesP n).take k) 0 with e | ⟨t, ht, e⟩
            · have : bk = 0 := by rw [← HBK.out]; exact e
              omega
            · have h1 := halvesP_mn (W := W) (by have := HLL.out; omega) (fun z hz => (HWZ.out z hz).1) t (by rw [HLL.out]; exact List.mem_of_mem_take ht)
              have h2 : mnH W t = bk := by rw [← HBK.out]; exact e
              have h3 : mnH W t ≤ W.sum := by unfold mnH; omega
              have := HALL.out
              omega
          have wf3 : (Lit.int .i64 bk).wf = true := WalkArith.wf_i64 (by omega)
          have wf4 : (Lit.int .i64 z1).wf = true := WalkArith.wf_i64 (by omega)
          have hne0 : ((n' : Int) == 0) = false := by simp; exact hn0
          have hd : decide (bk < s) = false := by simp; exact hle
          have cbk : (wr.alloc (.cells #[.int .i64 (s), .int .i64 (all - s), .int .i64 0, .int .i64 0] 52)).cell? ⟨g7, 0, none⟩ = some (.int .i64 bk) := by have h := EA.out.c0; rw [HBK.out] at h; exact h
          have cz1 : (wr.alloc (.cells #[.int .i64 (s), .int .i64 (all - s), .int .i64 0, .int .i64 0] 52)).cell? ⟨g7, 1, none⟩ = some (.int .i64 z1) := by rw [World.cell?_alloc_lt _ _ _ hwr]; exact hz1c
          have cz2 : (wr.alloc (.cells #[.int .i64 (s), .int .i64 (all - s), .int .i64 0, .int .i64 0] 52)).cell? ⟨g7, 2, none⟩ = some (.int .i64 0) := EA.out.c2
          have cz3 : (wr.alloc (.cells #[.int .i64 (s), .int .i64 (all - s), .int .i64 0, .int .i64 0] 52)).cell? ⟨g7, 3, none⟩ = some (.int .i64 0) := EA.out.c3
          by_cases hsm : s = bk
          · have hm := HMV.out
            have hE1 : evenL W ((halvesP n).take (k + 1)) = evenL W ((halvesP n).take k) ++ [rowL (halvesP n) k] := by
              rw [HT.out]; exact evenL_same (by rw [HMNQ.out, HBK.out, hm]; exact hsm)
            have hE2 : bkL W ((halvesP n).take (k + 1)) = bkL W ((halvesP n).take k) := by
              rw [HT.out, bkL_snoc, HMNQ.out, HBK.out, hm]; omega
            have HE1 := Lib.hid hE1
            have HE2 := Lib.hid hE2
            have heq := fun wx => eql_ws (s) (all - s) bk z1 wf1 wf2 hsm (by rw [hz1v, HL3.out, hm, hsm]) wx
            have HZV := Lib.hid hz1v
            obtain ⟨A0, C0, htop0, hrows0⟩ := EA.out.ev
            have HTOP0 := Lib.hid htop0
            have HROWS0 := Lib.hid hrows0
            have hbo : Below (wr.alloc (.cells #[.int .i64 (s), .int .i64 (all - s), .int .i64 0, .int .i64 0] 52)).heap.size (wr.alloc (.cells #[.int .i64 (s), .int .i64 (all - s), .int .i64 0, .int .i64 0] 52)) ((wr.alloc (.cells #[.int .i64 (s), .int .i64 (all - s), .int .i64 0, .int .i64 0] 52)).alloc (.cells #[.slice (AA k) q (CC k)] 22)) := (Below.refl _ _).alloc (Nat.le_refl _) _
            have HBO := Lib.hid hbo
            have HTOPA := Lib.hid (own_later htop0 hbo (Nat.le_refl _))
            have hnw := new1 (wr.alloc (.cells #[.int .i64 (s), .int .i64 (all - s), .int .i64 0, .int .i64 0] 52)) 22 (.slice (AA k) q (CC k))
            rw [show (wr.alloc (.cells #[.int .i64 (s), .int .i64 (all - s), .int .i64 0, .int .i64 0] 52)).heap.size = wr.heap.size + 1 by simp] at hnw
            have hbs : w5.heap.size ≤ ((wr.alloc (.cells #[.int .i64 (s), .int .i64 (all - s), .int .i64 0, .int .i64 0] 52)).alloc (.cells #[.slice (AA k) q (CC k)] 22)).heap.size := by have := HK.out.chg.size; simp; omega
            have hc3 : n' + 1 ≤ maxLen := by simp only [maxLen]; omega
            clear hm hE1 hE2 hz1v htop0 hrows0 hbo hsm hre hDne c0 hz1c c2 c3 f0 f1 f2 f3
            go_wp2_with (at_builtin; refine wpList_append_own_at _ rfl (.tmp 53) (.tmp 55) 50 rfl w5.heap.size 22 i1 (.slice none 0 0) 1 24 Try.underlying50 hi1 hy0 hy1 hy2 rfl (by decide) _ _ _ rfl HTOPA.out ⟨wr.heap.size + 1, 0, none⟩ 1 1 [.slice (AA k) q (CC k)] rfl rfl hnw (by intro u hu; simp at hu; subst hu; rfl) hc3 (by omega) hbs ?_)
            intro v' w9 hown hgrow _ _
            obtain ⟨A2, c2', rfl⟩ := own_slice hown
            have hgb : ∀ g, (Value.slice A' n' c').ownBlock = some g → w5.heap.size ≤ g := fun g hg => (HTOP0.out.lt g hg).1
            have hgw : g7 < ((wr.alloc (.cells #[.int .i64 (s), .int .i64 (all - s), .int .i64 0, .int .i64 0] 52)).alloc (.cells #[.slice (AA k) q (CC k)] 22)).heap.size := by simp; omega
            have hbl9 := hgrow.block g7 hgw (fun e => by have := hgb g7 (by simpa using e.symm); omega)
            have EO := EA.out.below HBO.out (by simp; omega)
            have HNEW : Hid (EvSt w5 g7 (g7 + 1) W ((halvesP n).take (k + 1)) A2 (n' + 1) c2' w9) := by
              refine ⟨EO.chg.of_row hgrow hgb, ?_, by rw [HE1.out, List.length_append, EO.len]; rfl, ?_, ?_, ?_, ?_, fun j => ?_⟩
              · rw [HE1.out]
                have hq1' := HQ1.out
                exact EvAt.push2 (own_later HTOP0.out HBO.out (Nat.le_refl _)) (fun i hi => own_later (HROWS0.out i hi) HBO.out (Nat.le_refl _)) EO.len (by rw [hq1']; exact own_later ROWA.out HBO.out (Nat.le_refl _)) hgrow (by rw [hq1']; exact hown)
              · rw [HE2.out]; exact (World.cell?_of_block hbl9).trans EO.c0
              · refine ⟨z1, (World.cell?_of_block hbl9).trans ((World.cell?_alloc_lt _ _ _ (by simp; omega)).trans cz1), .inr ?_⟩
                rw [HE2.out, HBK.out, HALL.out]; exact HZV.out
              · exact (World.cell?_of_block hbl9).trans EO.c2
              · exact (World.cell?_of_block hbl9).trans EO.c3
              · exact (World.frozen?_of_block hbl9).trans (EO.f j)
            clear hown hgrow hgb hgw hbl9 EO
            go_wp2
            go_roundw
            case rel => exact ⟨k + 1, A2, n' + 1, c2', by omega, by go_num, rfl, HNEW.out⟩
            case measure => simp [intOf]; omega
          · have hm := HMV.out
            have hE1 : evenL W ((halvesP n).take (k + 1)) = evenL W ((halvesP n).take k) := by
              rw [HT.out]; exact evenL_less (by rw [HMNQ.out, HBK.out, hm]; omega)
            have hE2 : bkL W ((halvesP n).take (k + 1)) = bkL W ((halvesP n).take k) := by
              rw [HT.out, bkL_snoc, HMNQ.out, HBK.out, hm]; omega
            have heq := fun wx => neq_ws (s) (all - s) bk z1 wf1 wf2 wf3 wf4 hsm wx
            have HNEW : Hid (EvSt w5 g7 (g7 + 1) W ((halvesP n).take (k + 1)) A' n' c' (wr.alloc (.cells #[.int .i64 (s), .int .i64 (all - s), .int .i64 0, .int .i64 0] 52))) := by
              have EO := EA.out
              refine ⟨EO.chg, by rw [hE1]; exact EO.ev, by rw [hE1]; exact EO.len, by rw [hE2]; exact EO.c0, ⟨z1, cz1, .inr (by rw [hE2, HBK.out, HALL.out]; exact hz1v)⟩, EO.c2, EO.c3, EO.f⟩
            clear hm hE1 hE2 hz1v hsm hre hDne c0 hz1c c2 c3 f0 f1 f2 f3
            go_wp2
            go_roundw
            case rel => exact ⟨k + 1, A', n', c', by omega, by go_num, rfl, HNEW.out⟩
            case measure => simp [intOf]; omega

      · by_cases hsb : all - s < s
        · have hca : (all - s < s) = True := by simp; omega
          have hcb : (all - s ≤ s) = True := by simp; omega
          have hmv : mn = all - s := by rw [HMN.out]; omega
          have hl1 : 0 ≤ all - s ∧ all - s ≤ 20000 := by omega
          have hl2 : 0 ≤ s ∧ s ≤ 20000 := by omega
          have hl3 : s = all - mn := by omega
          have HL3 := Lib.hid hl3
          have HMV := Lib.hid hmv
          clear hl3
          have wf1 : (Lit.int .i64 (all - s)).wf = true := WalkArith.wf_i64 (by omega)
          have wf2 : (Lit.int .i64 (s)).wf = true := WalkArith.wf_i64 (by omega)
          have HEQ := Lib.hid (fun wx => eql_ws (all - s) (s) (all - s) (s) wf1 wf2 rfl rfl wx)
          have hbA : Below wr.heap.size wr (wr.alloc (.cells #[.int .i64 (all - s), .int .i64 (s), .int .i64 0, .int .i64 0] 52)) := (Below.refl _ _).alloc (Nat.le_refl _) _
          have EA := Lib.hid (HK.out.below hbA hwr)
          have ROWA := Lib.hid (own_later HROW.out hbA (Nat.le_refl _))
          have a0 : (wr.alloc (.cells #[.int .i64 (all - s), .int .i64 (s), .int .i64 0, .int .i64 0] 52)).cell? ⟨wr.heap.size, 0, none⟩ = some (.int .i64 (all - s)) := by simp [go_sem]
          have a1 : (wr.alloc (.cells #[.int .i64 (all - s), .int .i64 (s), .int .i64 0, .int .i64 0] 52)).cell? ⟨wr.heap.size, 1, none⟩ = some (.int .i64 (s)) := by simp [go_sem]
          have a2 : (wr.alloc (.cells #[.int .i64 (all - s), .int .i64 (s), .int .i64 0, .int .i64 0] 52)).cell? ⟨wr.heap.size, 2, none⟩ = some (.int .i64 0) := by simp [go_sem]
          have a3 : (wr.alloc (.cells #[.int .i64 (all - s), .int .i64 (s), .int .i64 0, .int .i64 0] 52)).cell? ⟨wr.heap.size, 3, none⟩ = some (.int .i64 0) := by simp [go_sem]
          have hgA : wr.heap.size < (wr.alloc (.cells #[.int .i64 (all - s), .int .i64 (s), .int .i64 0, .int .i64 0] 52)).heap.size := by simp
          have hnk : n' ≤ k := by
            have h := HK.out.len
            have h2 : (evenL W ((halvesP n).take k)).length ≤ ((halvesP n).take k).length := by unfold evenL; exact List.length_filter_le _ _
            rw [List.length_take] at h2
            omega
          clear hmv hbA
          by_cases hre : n' = 0 ∨ bk < all - s
          · have HEV : Hid (evenL W ((halvesP n).take (k + 1)) = [rowL (halvesP n) k] ∧ bkL W ((halvesP n).take (k + 1)) = all - s) := by
              have hb := HBK.out
              have hq := HMNQ.out
              have hm := HMV.out
              by_cases hlt2 : bk < all - s
              · refine ⟨by rw [HT.out]; exact evenL_more (by rw [hb, hq, hm]; exact hlt2), ?_⟩
                rw [HT.out, bkL_snoc, hb, hq, hm]; omega
              · have h0 := HNE.out (by omega)
                rw [HT.out, h0, List.nil_append]
                rw [h0] at hb
                have hb0 : bk = 0 := by rw [← hb]; rfl
                refine ⟨?_, ?_⟩
                · have e : mnH W (rowL (halvesP n) k) = bkL W [] := by rw [hq, hm]; show all - s = 0; omega
                  have := evenL_same (W := W) (L := []) (h := rowL (halvesP n) k) e
                  simpa [evenL] using this
                · have := bkL_snoc W [] (rowL (halvesP n) k)
                  rw [List.nil_append] at this
                  rw [this, hq, hm]; show max 0 (all - s) = all - s; omega
            have TAIL : Hid (∀ wS : World, Chg (· = g7) w5 wS → wS.cell? ⟨g7, 0, none⟩ = some (.int .i64 (all - s)) → wS.cell? ⟨g7, 1, none⟩ = some (.int .i64 (s)) → wS.cell? ⟨g7, 2, none⟩ = some (.int .i64 0) → wS.cell? ⟨g7, 3, none⟩ = some (.int .i64 0) → (∀ j, wS.frozen? ⟨g7, j, none⟩ = false) → wS.ownsRow (g7 + 1) 3 1 (.slice (AA k) q (CC k)) q (intCells (rowL (halvesP n) k)) →
                ∀ (o : Obj) (v' : Value) (w' : World) (A2 : Option Addr) (c2 : Nat), v' = .slice A2 1 c2 → w'.ownsRow w5.heap.size 22 1 v' (0 + 1) (ssCells (fun _ => none) (fun _ => 0) (rowL []) 0 ++ [.slice (AA k) q (CC k)]) → (wS.alloc o).grownBy w' none → EvSt w5 g7 (g7 + 1) W ((halvesP n).take (k + 1)) A2 1 c2 w') := by
              intro wS hch h0 h1 h2 h3 hf hro o v' w' A2 c2 hv hown hgr
              subst hv
              have hba : Below wS.heap.size wS w' := gb_new (Nat.le_refl _) ((Below.refl wS.heap.size wS).alloc (Nat.le_refl _) o) hgr (fun g hg => by cases hg)
              have hgs : g7 < wS.heap.size := by have := hch.size; omega
              have hq1' := HQ1.out
              refine ⟨hch.trans (Chg.of_below hba (Nat.le_refl _)), ?_, by rw [HEV.out.1]; rfl, by rw [HEV.out.2]; exact (hba.cell (p := ⟨g7, 0, none⟩) hgs).trans h0, ⟨s, (hba.cell (p := ⟨g7, 1, none⟩) hgs).trans h1, .inr (by rw [HEV.out.2, HALL.out]; try (have a := HL3.out; have b := HMV.out; omega))⟩, (hba.cell (p := ⟨g7, 2, none⟩) hgs).trans h2, (hba.cell (p := ⟨g7, 3, none⟩) hgs).trans h3, fun j => (hba.frozen (p := ⟨g7, j, none⟩) hgs).trans (hf j)⟩
              rw [HEV.out.1]
              have hp : EvAt w' w5.heap.size (g7 + 1) (.slice A2 1 c2) (0 + 1) ([] ++ [rowL (halvesP n) k]) := (EvAt.nil (wS.alloc o) w5.heap.size (g7 + 1) []).push rfl (by rw [hq1']; exact own_later hro ((Below.refl wS.heap.size wS).alloc (Nat.le_refl _) o) (Nat.le_refl _)) hgr (fun A0 C0 _ => by rw [hq1']; exact hown)
              exact hp
            by_cases hn0 : n' = 0
            · subst hn0
              go_wp2
              have c0A := EA.out.c0
              obtain ⟨zA, c1A, _⟩ := EA.out.c1
              have c2A := EA.out.c2
              have c3A := EA.out.c3
              have f0A := EA.out.f
              clear c0 hz1c c2 c3 f0 f1 f2 f3 p1
              generalize wr.alloc (.cells #[.int .i64 (all - s), .int .i64 (s), .int .i64 0, .int .i64 0] 52) = wA at *
              generalize wr.heap.size = gA at *
              have g0A := f0A 0
              have g1A := f0A 1
              have g2A := f0A 2
              have g3A := f0A 3
              have HF0A := Lib.hid f0A
              clear f0A
              go_still_tail 2, (by kernel_rfl)
              change wpList _ _ _ _ _ wA.drew
              have d0 : wA.drew.cell? ⟨g7, 0, none⟩ = some (.int .i64 (bkL W ((halvesP n).take k))) := c0A
              have d1 : wA.drew.cell? ⟨g7, 1, none⟩ = some (.int .i64 zA) := c1A
              have d2 : wA.drew.cell? ⟨g7, 2, none⟩ = some (.int .i64 0) := c2A
              have d3 : wA.drew.cell? ⟨g7, 3, none⟩ = some (.int .i64 0) := c3A
              have e0 : wA.drew.cell? ⟨gA, 0, none⟩ = some (.int .i64 (all - s)) := a0
              have e1 : wA.drew.cell? ⟨gA, 1, none⟩ = some (.int .i64 (s)) := a1
              have e2 : wA.drew.cell? ⟨gA, 2, none⟩ = some (.int .i64 0) := a2
              have e3 : wA.drew.cell? ⟨gA, 3, none⟩ = some (.int .i64 0) := a3
              have k0 : wA.drew.frozen? ⟨g7, 0, none⟩ = false := g0A
              have k1 : wA.drew.frozen? ⟨g7, 1, none⟩ = false := g1A
              have k2 : wA.drew.frozen? ⟨g7, 2, none⟩ = false := g2A
              have k3 : wA.drew.frozen? ⟨g7, 3, none⟩ = false := g3A
              have KF : Hid (∀ j, wA.drew.frozen? ⟨g7, j, none⟩ = false) := fun j => HF0A.out j
              have hgAd : gA < wA.drew.heap.size := hgA
              have CHD : Hid (Chg (· = g7) w5 wA.drew) := EA.out.chg.trans (Chg.of_below (Below.refl wA.heap.size wA).drew (Nat.le_refl _))
              have ROWD : Hid (wA.drew.ownsRow (g7 + 1) 3 1 (.slice (AA k) q (CC k)) q (intCells (rowL (halvesP n) k))) := own_later ROWA.out (Below.refl wA.heap.size wA).drew (Nat.le_refl _)
              clear c0A c1A c2A c3A a0 a1 a2 a3 g0A g1A g2A g3A HF0A hgA EA ROWA HK
              generalize wA.drew = wd at *
              have hne7 : gA ≠ g7 := by omega
              have CHS : Hid (Chg (· = g7) w5 ((((wd.setCell ⟨g7, 0, none⟩ (.int .i64 (all - s))).setCell ⟨g7, 1, none⟩ (.int .i64 (s))).setCell ⟨g7, 2, none⟩ (.int .i64 0)).setCell ⟨g7, 3, none⟩ (.int .i64 0))) :=
                (((CHD.out.trans (chg_setH g7 0 _ _)).trans (chg_setH g7 1 _ _)).trans (chg_setH g7 2 _ _)).trans (chg_setH g7 3 _ _)
              have ROWS : Hid (((((wd.setCell ⟨g7, 0, none⟩ (.int .i64 (all - s))).setCell ⟨g7, 1, none⟩ (.int .i64 (s))).setCell ⟨g7, 2, none⟩ (.int .i64 0)).setCell ⟨g7, 3, none⟩ (.int .i64 0)).ownsRow (g7 + 1) 3 1 (.slice (AA k) q (CC k)) q (intCells (rowL (halvesP n) k))) :=
                ((((chg_setH g7 0 _ _).trans (chg_setH g7 1 _ _)).trans (chg_setH g7 2 _ _)).trans (chg_setH g7 3 _ _)).own ROWD.out (fun g hg => by have := (ROWD.out.lt g hg).1; show ¬ g = g7; omega)
              obtain ⟨C0, C1, C2, C3⟩ := set4_cells (g := g7) (v0 := .int .i64 (all - s)) (v1 := .int .i64 (s)) (v2 := .int .i64 0) (v3 := .int .i64 0) d0 d1 d2 d3
              have E0 := (set4_far (g := g7) (v0 := .int .i64 (all - s)) (v1 := .int .i64 (s)) (v2 := .int .i64 0) (v3 := .int .i64 0) wd hne7 0).trans e0
              have E1 := (set4_far (g := g7) (v0 := .int .i64 (all - s)) (v1 := .int .i64 (s)) (v2 := .int .i64 0) (v3 := .int .i64 0) wd hne7 1).trans e1
              have E2 := (set4_far (g := g7) (v0 := .int .i64 (all - s)) (v1 := .int .i64 (s)) (v2 := .int .i64 0) (v3 := .int .i64 0) wd hne7 2).trans e2
              have E3 := (set4_far (g := g7) (v0 := .int .i64 (all - s)) (v1 := .int .i64 (s)) (v2 := .int .i64 0) (v3 := .int .i64 0) wd hne7 3).trans e3
              have KS : Hid (∀ j, ((((wd.setCell ⟨g7, 0, none⟩ (.int .i64 (all - s))).setCell ⟨g7, 1, none⟩ (.int .i64 (s))).setCell ⟨g7, 2, none⟩ (.int .i64 0)).setCell ⟨g7, 3, none⟩ (.int .i64 0)).frozen? ⟨g7, j, none⟩ = false) := fun j => by
                rw [World.frozen?_setCell, World.frozen?_setCell, World.frozen?_setCell, World.frozen?_setCell]; exact KF.out j
              have hsz5 : w5.heap.size ≤ wd.heap.size := CHD.out.size
              have hnw := new1 ((((wd.setCell ⟨g7, 0, none⟩ (.int .i64 (all - s))).setCell ⟨g7, 1, none⟩ (.int .i64 (s))).setCell ⟨g7, 2, none⟩ (.int .i64 0)).setCell ⟨g7, 3, none⟩ (.int .i64 0)) 22 (.slice (AA k) q (CC k))
              rw [show ((((wd.setCell ⟨g7, 0, none⟩ (.int .i64 (all - s))).setCell ⟨g7, 1, none⟩ (.int .i64 (s))).setCell ⟨g7, 2, none⟩ (.int .i64 0)).setCell ⟨g7, 3, none⟩ (.int .i64 0)).heap.size = wd.heap.size by simp] at hnw
              have hnil := World.ownsRow_nil (((((wd.setCell ⟨g7, 0, none⟩ (.int .i64 (all - s))).setCell ⟨g7, 1, none⟩ (.int .i64 (s))).setCell ⟨g7, 2, none⟩ (.int .i64 0)).setCell ⟨g7, 3, none⟩ (.int .i64 0)).alloc (.cells #[.slice (AA k) q (CC k)] 22)) w5.heap.size 22 1
              have HNIL := Lib.hid hnil
              have hbs : w5.heap.size ≤ (((((wd.setCell ⟨g7, 0, none⟩ (.int .i64 (all - s))).setCell ⟨g7, 1, none⟩ (.int .i64 (s))).setCell ⟨g7, 2, none⟩ (.int .i64 0)).setCell ⟨g7, 3, none⟩ (.int .i64 0)).alloc (.cells #[.slice (AA k) q (CC k)] 22)).heap.size := by simp; omega
              have CC0 := Lib.hid C0
              have CC1 := Lib.hid C1
              have CC2 := Lib.hid C2
              have CC3 := Lib.hid C3
              have heq := HEQ.out
              have hc3 : 0 + 1 ≤ maxLen := by simp only [maxLen]; omega
              clear hnil KF CHD ROWD
              go_wp2_with (at_builtin; refine wpList_append_own_at _ rfl (.tmp 53) (.tmp 55) 50 rfl w5.heap.size 22 i1 (.slice none 0 0) 1 24 Try.underlying50 hi1 hy0 hy1 hy2 rfl (by decide) _ _ _ rfl HNIL.out ⟨wd.heap.size, 0, none⟩ 1 1 [.slice (AA k) q (CC k)] rfl rfl hnw (by intro u hu; simp at hu; subst hu; rfl) hc3 (by omega) hbs ?_)
              intro v' w9 hown hgrow _ _
              obtain ⟨A2, c2, rfl⟩ := own_slice hown
              have HNEW := Lib.hid (TAIL.out _ CHS.out CC0.out CC1.out CC2.out CC3.out KS.out ROWS.out _ _ w9 A2 c2 rfl hown hgrow)
              clear hown hgrow TAIL CHS KS ROWS CC0 CC1 CC2 CC3 C0 C1 C2 C3 E0 E1 E2 E3 d0 d1 d2 d3 e0 e1 e2 e3 k0 k1 k2 k3
              go_wp2
              go_roundw
              case rel => exact ⟨k + 1, A2, 1, c2, by omega, by go_num, rfl, HNEW.out⟩
              case measure => simp [intOf]; omega
            · have hlt2 : bk < all - s := by omega
              have hne0 : ((n' : Int) == 0) = false := by simp; exact hn0
              have hd : decide (bk < all - s) = true := by simp; omega
              have cbk : (wr.alloc (.cells #[.int .i64 (all - s), .int .i64 (s), .int .i64 0, .int .i64 0] 52)).cell? ⟨g7, 0, none⟩ = some (.int .i64 bk) := by have h := EA.out.c0; rw [HBK.out] at h; exact h
              go_wp2
              have c0A := EA.out.c0
              obtain ⟨zA, c1A, _⟩ := EA.out.c1
              have c2A := EA.out.c2
              have c3A := EA.out.c3
              have f0A := EA.out.f
              clear cbk c0 hz1c c2 c3 f0 f1 f2 f3 p1
              generalize wr.alloc (.cells #[.int .i64 (all - s), .int .i64 (s), .int .i64 0, .int .i64 0] 52) = wA at *
              generalize wr.heap.size = gA at *
              have g0A := f0A 0
              have g1A := f0A 1
              have g2A := f0A 2
              have g3A := f0A 3
              have HF0A := Lib.hid f0A
              clear f0A
              go_still_tail 2, (by kernel_rfl)
              change wpList _ _ _ _ _ wA.drew
              have d0 : wA.drew.cell? ⟨g7, 0, none⟩ = some (.int .i64 (bkL W ((halvesP n).take k))) := c0A
              have d1 : wA.drew.cell? ⟨g7, 1, none⟩ = some (.int .i64 zA) := c1A
              have d2 : wA.drew.cell? ⟨g7, 2, none⟩ = some (.int .i64 0) := c2A
              have d3 : wA.drew.cell? ⟨g7, 3, none⟩ = some (.int .i64 0) := c3A
              have e0 : wA.drew.cell? ⟨gA, 0, none⟩ = some (.int .i64 (all - s)) := a0
              have e1 : wA.drew.cell? ⟨gA, 1, none⟩ = some (.int .i64 (s)) := a1
              have e2 : wA.drew.cell? ⟨gA, 2, none⟩ = some (.int .i64 0) := a2
              have e3 : wA.drew.cell? ⟨gA, 3, none⟩ = some (.int .i64 0) := a3
              have k0 : wA.drew.frozen? ⟨g7, 0, none⟩ = false := g0A
              have k1 : wA.drew.frozen? ⟨g7, 1, none⟩ = false := g1A
              have k2 : wA.drew.frozen? ⟨g7, 2, none⟩ = false := g2A
              have k3 : wA.drew.frozen? ⟨g7, 3, none⟩ = false := g3A
              have KF : Hid (∀ j, wA.drew.frozen? ⟨g7, j, none⟩ = false) := fun j => HF0A.out j
              have hgAd : gA < wA.drew.heap.size := hgA
              have CHD : Hid (Chg (· = g7) w5 wA.drew) := EA.out.chg.trans (Chg.of_below (Below.refl wA.heap.size wA).drew (Nat.le_refl _))
              have ROWD : Hid (wA.drew.ownsRow (g7 + 1) 3 1 (.slice (AA k) q (CC k)) q (intCells (rowL (halvesP n) k))) := own_later ROWA.out (Below.refl wA.heap.size wA).drew (Nat.le_refl _)
              clear c0A c1A c2A c3A a0 a1 a2 a3 g0A g1A g2A g3A HF0A hgA EA ROWA HK
              generalize wA.drew = wd at *
              have hne7 : gA ≠ g7 := by omega
              have CHS : Hid (Chg (· = g7) w5 ((((wd.setCell ⟨g7, 0, none⟩ (.int .i64 (all - s))).setCell ⟨g7, 1, none⟩ (.int .i64 (s))).setCell ⟨g7, 2, none⟩ (.int .i64 0)).setCell ⟨g7, 3, none⟩ (.int .i64 0))) :=
                (((CHD.out.trans (chg_setH g7 0 _ _)).trans (chg_setH g7 1 _ _)).trans (chg_setH g7 2 _ _)).trans (chg_setH g7 3 _ _)
              have ROWS : Hid (((((wd.setCell ⟨g7, 0, none⟩ (.int .i64 (all - s))).setCell ⟨g7, 1, none⟩ (.int .i64 (s))).setCell ⟨g7, 2, none⟩ (.int .i64 0)).setCell ⟨g7, 3, none⟩ (.int .i64 0)).ownsRow (g7 + 1) 3 1 (.slice (AA k) q (CC k)) q (intCells (rowL (halvesP n) k))) :=
                ((((chg_setH g7 0 _ _).trans (chg_setH g7 1 _ _)).trans (chg_setH g7 2 _ _)).trans (chg_setH g7 3 _ _)).own ROWD.out (fun g hg => by have := (ROWD.out.lt g hg).1; show ¬ g = g7; omega)
              obtain ⟨C0, C1, C2, C3⟩ := set4_cells (g := g7) (v0 := .int .i64 (all - s)) (v1 := .int .i64 (s)) (v2 := .int .i64 0) (v3 := .int .i64 0) d0 d1 d2 d3
              have E0 := (set4_far (g := g7) (v0 := .int .i64 (all - s)) (v1 := .int .i64 (s)) (v2 := .int .i64 0) (v3 := .int .i64 0) wd hne7 0).trans e0
              have E1 := (set4_far (g := g7) (v0 := .int .i64 (all - s)) (v1 := .int .i64 (s)) (v2 := .int .i64 0) (v3 := .int .i64 0) wd hne7 1).trans e1
              have E2 := (set4_far (g := g7) (v0 := .int .i64 (all - s)) (v1 := .int .i64 (s)) (v2 := .int .i64 0) (v3 := .int .i64 0) wd hne7 2).trans e2
              have E3 := (set4_far (g := g7) (v0 := .int .i64 (all - s)) (v1 := .int .i64 (s)) (v2 := .int .i64 0) (v3 := .int .i64 0) wd hne7 3).trans e3
              have KS : Hid (∀ j, ((((wd.setCell ⟨g7, 0, none⟩ (.int .i64 (all - s))).setCell ⟨g7, 1, none⟩ (.int .i64 (s))).setCell ⟨g7, 2, none⟩ (.int .i64 0)).setCell ⟨g7, 3, none⟩ (.int .i64 0)).frozen? ⟨g7, j, none⟩ = false) := fun j => by
                rw [World.frozen?_setCell, World.frozen?_setCell, World.frozen?_setCell, World.frozen?_setCell]; exact KF.out j
              have hsz5 : w5.heap.size ≤ wd.heap.size := CHD.out.size
              have hnw := new1 ((((wd.setCell ⟨g7, 0, none⟩ (.int .i64 (all - s))).setCell ⟨g7, 1, none⟩ (.int .i64 (s))).setCell ⟨g7, 2, none⟩ (.int .i64 0)).setCell ⟨g7, 3, none⟩ (.int .i64 0)) 22 (.slice (AA k) q (CC k))
              rw [show ((((wd.setCell ⟨g7, 0, none⟩ (.int .i64 (all - s))).setCell ⟨g7, 1, none⟩ (.int .i64 (s))).setCell ⟨g7, 2, none⟩ (.int .i64 0)).setCell ⟨g7, 3, none⟩ (.int .i64 0)).heap.size = wd.heap.size by simp] at hnw
              have hnil := World.ownsRow_nil (((((wd.setCell ⟨g7, 0, none⟩ (.int .i64 (all - s))).setCell ⟨g7, 1, none⟩ (.int .i64 (s))).setCell ⟨g7, 2, none⟩ (.int .i64 0)).setCell ⟨g7, 3, none⟩ (.int .i64 0)).alloc (.cells #[.slice (AA k) q (CC k)] 22)) w5.heap.size 22 1
              have HNIL := Lib.hid hnil
              have hbs : w5.heap.size ≤ (((((wd.setCell ⟨g7, 0, none⟩ (.int .i64 (all - s))).setCell ⟨g7, 1, none⟩ (.int .i64 (s))).setCell ⟨g7, 2, none⟩ (.int .i64 0)).setCell ⟨g7, 3, none⟩ (.int .i64 0)).alloc (.cells #[.slice (AA k) q (CC k)] 22)).heap.size := by simp; omega
              have CC0 := Lib.hid C0
              have CC1 := Lib.hid C1
              have CC2 := Lib.hid C2
              have CC3 := Lib.hid C3
              have heq := HEQ.out
              have hc3 : 0 + 1 ≤ maxLen := by simp only [maxLen]; omega
              clear hnil KF CHD ROWD
              go_wp2_with (at_builtin; refine wpList_append_own_at _ rfl (.tmp 53) (.tmp 55) 50 rfl w5.heap.size 22 i1 (.slice none 0 0) 1 24 Try.underlying50 hi1 hy0 hy1 hy2 rfl (by decide) _ _ _ rfl HNIL.out ⟨wd.heap.size, 0, none⟩ 1 1 [.slice (AA k) q (CC k)] rfl rfl hnw (by intro u hu; simp at hu; subst hu; rfl) hc3 (by omega) hbs ?_)
              intro v' w9 hown hgrow _ _
              obtain ⟨A2, c2, rfl⟩ := own_slice hown
              have HNEW := Lib.hid (TAIL.out _ CHS.out CC0.out CC1.out CC2.out CC3.out KS.out ROWS.out _ _ w9 A2 c2 rfl hown hgrow)
              clear hown hgrow TAIL CHS KS ROWS CC0 CC1 CC2 CC3 C0 C1 C2 C3 E0 E1 E2 E3 d0 d1 d2 d3 e0 e1 e2 e3 k0 k1 k2 k3
              go_wp2
              go_roundw
              case rel => exact ⟨k + 1, A2, 1, c2, by omega, by go_num, rfl, HNEW.out⟩
              case measure => simp [intOf]; omega
          · have hn0 : ¬ n' = 0 := fun h => hre (.inl h)
            have hle : all - s ≤ bk := by have h9 : ¬ bk < all - s := fun h => hre (.inr h); omega
            have hDne : ¬ (halvesP n).take k = [] := fun e => by
              have h := HK.out.len
              rw [e] at h
              exact hn0 (by rw [← h]; rfl)
            have hz1v : z1 = all - bk := by
              rcases HZ1E.out with e | e
              · exact absurd e hDne
              · exact e
            have hbk12 : bk ≤ 20000 := by
              rcases bkL_att W ((halvesP n).take k) 0 with e | ⟨t, ht, e⟩
              · have : bk = 0 := by rw [← HBK.out]; exact e
                omega
              · have h1 := halvesP_mn (W := W) (by have := HLL.out; omega) (fun z hz => (HWZ.out z hz).1) t (by rw [HLL.out]; exact List.mem_of_mem_take ht)
                have h2 : mnH W t = bk := by rw [← HBK.out]; exact e
                have h3 : mnH W t ≤ W.sum := by unfold mnH; omega
                have := HALL.out
                omega
            have wf3 : (Lit.int .i64 bk).wf = true := WalkArith.wf_i64 (by omega)
            have wf4 : (Lit.int .i64 z1).wf = true := WalkArith.wf_i64 (by omega)
            have hne0 : ((n' : Int) == 0) = false := by simp; exact hn0
            have hd : decide (bk < all - s) = false := by simp; exact hle
            have cbk : (wr.alloc (.cells #[.int .i64 (all - s), .int .i64 (s), .int .i64 0, .int .i64 0] 52)).cell? ⟨g7, 0, none⟩ = some (.int .i64 bk) := by have h := EA.out.c0; rw [HBK.out] at h; exact h
            have cz1 : (wr.alloc (.cells #[.int .i64 (all - s), .int .i64 (s), .int .i64 0, .int .i64 0] 52)).cell? ⟨g7, 1, none⟩ = some (.int .i64 z1) := by rw [World.cell?_alloc_lt _ _ _ hwr]; exact hz1c
            have cz2 : (wr.alloc (.cells #[.int .i64 (all - s), .int .i64 (s), .int .i64 0, .int .i64 0] 52)).cell? ⟨g7, 2, none⟩ = some (.int .i64 0) := EA.out.c2
            have cz3 : (wr.alloc (.cells #[.int .i64 (all - s), .int .i64 (s), .int .i64 0, .int .i64 0] 52)).cell? ⟨g7, 3, none⟩ = some (.int .i64 0) := EA.out.c3
            by_cases hsm : all - s = bk
            · have hm := HMV.out
              have hE1 : evenL W ((halvesP n).take (k + 1)) = evenL W ((halvesP n).take k) ++ [rowL (halvesP n) k] := by
                rw [HT.out]; exact evenL_same (by rw [HMNQ.out, HBK.out, hm]; exact hsm)
              have hE2 : bkL W ((halvesP n).take (k + 1)) = bkL W ((halvesP n).take k) := by
                rw [HT.out, bkL_snoc, HMNQ.out, HBK.out, hm]; omega
              have HE1 := Lib.hid hE1
              have HE2 := Lib.hid hE2
              have heq := fun wx => eql_ws (all - s) (s) bk z1 wf1 wf2 hsm (by rw [hz1v, HL3.out, hm, hsm]) wx
              have HZV := Lib.hid hz1v
              obtain ⟨A0, C0, htop0, hrows0⟩ := EA.out.ev
              have HTOP0 := Lib.hid htop0
              have HROWS0 := Lib.hid hrows0
              have hbo : Below (wr.alloc (.cells #[.int .i64 (all - s), .int .i64 (s), .int .i64 0, .int .i64 0] 52)).heap.size (wr.alloc (.cells #[.int .i64 (all - s), .int .i64 (s), .int .i64 0, .int .i64 0] 52)) ((wr.alloc (.cells #[.int .i64 (all - s), .int .i64 (s), .int .i64 0, .int .i64 0] 52)).alloc (.cells #[.slice (AA k) q (CC k)] 22)) := (Below.refl _ _).alloc (Nat.le_refl _) _
              have HBO := Lib.hid hbo
              have HTOPA := Lib.hid (own_later htop0 hbo (Nat.le_refl _))
              have hnw := new1 (wr.alloc (.cells #[.int .i64 (all - s), .int .i64 (s), .int .i64 0, .int .i64 0] 52)) 22 (.slice (AA k) q (CC k))
              rw [show (wr.alloc (.cells #[.int .i64 (all - s), .int .i64 (s), .int .i64 0, .int .i64 0] 52)).heap.size = wr.heap.size + 1 by simp] at hnw
              have hbs : w5.heap.size ≤ ((wr.alloc (.cells #[.int .i64 (all - s), .int .i64 (s), .int .i64 0, .int .i64 0] 52)).alloc (.cells #[.slice (AA k) q (CC k)] 22)).heap.size := by have := HK.out.chg.size; simp; omega
              have hc3 : n' + 1 ≤ maxLen := by simp only [maxLen]; omega
              clear hm hE1 hE2 hz1v htop0 hrows0 hbo hsm hre hDne c0 hz1c c2 c3 f0 f1 f2 f3
              go_wp2_with (at_builtin; refine wpList_append_own_at _ rfl (.tmp 53) (.tmp 55) 50 rfl w5.heap.size 22 i1 (.slice none 0 0) 1 24 Try.underlying50 hi1 hy0 hy1 hy2 rfl (by decide) _ _ _ rfl HTOPA.out ⟨wr.heap.size + 1, 0, none⟩ 1 1 [.slice (AA k) q (CC k)] rfl rfl hnw (by intro u hu; simp at hu; subst hu; rfl) hc3 (by omega) hbs ?_)
              intro v' w9 hown hgrow _ _
              obtain ⟨A2, c2', rfl⟩ := own_slice hown
              have hgb : ∀ g, (Value.slice A' n' c').ownBlock = some g → w5.heap.size ≤ g := fun g hg => (HTOP0.out.lt g hg).1
              have hgw : g7 < ((wr.alloc (.cells #[.int .i64 (all - s), .int .i64 (s), .int .i64 0, .int .i64 0] 52)).alloc (.cells #[.slice (AA k) q (CC k)] 22)).heap.size := by simp; omega
              have hbl9 := hgrow.block g7 hgw (fun e => by have := hgb g7 (by simpa using e.symm); omega)
              have EO := EA.out.below HBO.out (by simp; omega)
              have HNEW : Hid (EvSt w5 g7 (g7 + 1) W ((halvesP n).take (k + 1)) A2 (n' + 1) c2' w9) := by
                refine ⟨EO.chg.of_row hgrow hgb, ?_, by rw [HE1.out, List.length_append, EO.len]; rfl, ?_, ?_, ?_, ?_, fun j => ?_⟩
                · rw [HE1.out]
                  have hq1' := HQ1.out
                  exact EvAt.push2 (own_later HTOP0.out HBO.out (Nat.le_refl _)) (fun i hi => own_later (HROWS0.out i hi) HBO.out (Nat.le_refl _)) EO.len (by rw [hq1']; exact own_later ROWA.out HBO.out (Nat.le_refl _)) hgrow (by rw [hq1']; exact hown)
                · rw [HE2.out]; exact (World.cell?_of_block hbl9).trans EO.c0
                · refine ⟨z1, (World.cell?_of_block hbl9).trans ((World.cell?_alloc_lt _ _ _ (by simp; omega)).trans cz1), .inr ?_⟩
                  rw [HE2.out, HBK.out, HALL.out]; exact HZV.out
                · exact (World.cell?_of_block hbl9).trans EO.c2
                · exact (World.cell?_of_block hbl9).trans EO.c3
                · exact (World.frozen?_of_block hbl9).trans (EO.f j)
              clear hown hgrow hgb hgw hbl9 EO
              go_wp2
              go_roundw
              case rel => exact ⟨k + 1, A2, n' + 1, c2', by omega, by go_num, rfl, HNEW.out⟩
              case measure => simp [intOf]; omega
            · have hm := HMV.out
              have hE1 : evenL W ((halvesP n).take (k + 1)) = evenL W ((halvesP n).take k) := by
                rw [HT.out]; exact evenL_less (by rw [HMNQ.out, HBK.out, hm]; omega)
              have hE2 : bkL W ((halvesP n).take (k + 1)) = bkL W ((halvesP n).take k) := by
                rw [HT.out, bkL_snoc, HMNQ.out, HBK.out, hm]; omega
              have heq := fun wx => neq_ws (all - s) (s) bk z1 wf1 wf2 wf3 wf4 hsm wx
              have HNEW : Hid (EvSt w5 g7 (g7 + 1) W ((halvesP n).take (k + 1)) A' n' c' (wr.alloc (.cells #[.int .i64 (all - s), .int .i64 (s), .int .i64 0, .int .i64 0] 52))) := by
                have EO := EA.out
                refine ⟨EO.chg, by rw [hE1]; exact EO.ev, by rw [hE1]; exact EO.len, by rw [hE2]; exact EO.c0, ⟨z1, cz1, .inr (by rw [hE2, HBK.out, HALL.out]; exact hz1v)⟩, EO.c2, EO.c3, EO.f⟩
              clear hm hE1 hE2 hz1v hsm hre hDne c0 hz1c c2 c3 f0 f1 f2 f3
              go_wp2
              go_roundw
              case rel => exact ⟨k + 1, A', n', c', by omega, by go_num, rfl, HNEW.out⟩
              case measure => simp [intOf]; omega

        · have hca : (all - s < s) = False := by simp; omega
          have hcb : (all - s ≤ s) = True := by simp; omega
          have hmv : mn = s := by rw [HMN.out]; omega
          have hl1 : 0 ≤ s ∧ s ≤ 20000 := by omega
          have hl2 : 0 ≤ s ∧ s ≤ 20000 := by omega
          have hl3 : s = all - mn := by omega
          have HL3 := Lib.hid hl3
          have HMV := Lib.hid hmv
          clear hl3
          have wf1 : (Lit.int .i64 (s)).wf = true := WalkArith.wf_i64 (by omega)
          have wf2 : (Lit.int .i64 (s)).wf = true := WalkArith.wf_i64 (by omega)
          have HEQ := Lib.hid (fun wx => eql_ws (s) (s) (s) (s) wf1 wf2 rfl rfl wx)
          have hbA : Below wr.heap.size wr (wr.alloc (.cells #[.int .i64 (s), .int .i64 (s), .int .i64 0, .int .i64 0] 52)) := (Below.refl _ _).alloc (Nat.le_refl _) _
          have EA := Lib.hid (HK.out.below hbA hwr)
          have ROWA := Lib.hid (own_later HROW.out hbA (Nat.le_refl _))
          have a0 : (wr.alloc (.cells #[.int .i64 (s), .int .i64 (s), .int .i64 0, .int .i64 0] 52)).cell? ⟨wr.heap.size, 0, none⟩ = some (.int .i64 (s)) := by simp [go_sem]
          have a1 : (wr.alloc (.cells #[.int .i64 (s), .int .i64 (s), .int .i64 0, .int .i64 0] 52)).cell? ⟨wr.heap.size, 1, none⟩ = some (.int .i64 (s)) := by simp [go_sem]
          have a2 : (wr.alloc (.cells #[.int .i64 (s), .int .i64 (s), .int .i64 0, .int .i64 0] 52)).cell? ⟨wr.heap.size, 2, none⟩ = some (.int .i64 0) := by simp [go_sem]
          have a3 : (wr.alloc (.cells #[.int .i64 (s), .int .i64 (s), .int .i64 0, .int .i64 0] 52)).cell? ⟨wr.heap.size, 3, none⟩ = some (.int .i64 0) := by simp [go_sem]
          have hgA : wr.heap.size < (wr.alloc (.cells #[.int .i64 (s), .int .i64 (s), .int .i64 0, .int .i64 0] 52)).heap.size := by simp
          have hnk : n' ≤ k := by
            have h := HK.out.len
            have h2 : (evenL W ((halvesP n).take k)).length ≤ ((halvesP n).take k).length := by unfold evenL; exact List.length_filter_le _ _
            rw [List.length_take] at h2
            omega
          clear hmv hbA
          by_cases hre : n' = 0 ∨ bk < s
          · have HEV : Hid (evenL W ((halvesP n).take (k + 1)) = [rowL (halvesP n) k] ∧ bkL W ((halvesP n).take (k + 1)) = s) := by
              have hb := HBK.out
              have hq := HMNQ.out
              have hm := HMV.out
              by_cases hlt2 : bk < s
              · refine ⟨by rw [HT.out]; exact evenL_more (by rw [hb, hq, hm]; exact hlt2), ?_⟩
                rw [HT.out, bkL_snoc, hb, hq, hm]; omega
              · have h0 := HNE.out (by omega)
                rw [HT.out, h0, List.nil_append]
                rw [h0] at hb
                have hb0 : bk = 0 := by rw [← hb]; rfl
                refine ⟨?_, ?_⟩
                · have e : mnH W (rowL (halvesP n) k) = bkL W [] := by rw [hq, hm]; show s = 0; omega
                  have := evenL_same (W := W) (L := []) (h := rowL (halvesP n) k) e
                  simpa [evenL] using this
                · have := bkL_snoc W [] (rowL (halvesP n) k)
                  rw [List.nil_append] at this
                  rw [this, hq, hm]; show max 0 (s) = s; omega
            have TAIL : Hid (∀ wS : World, Chg (· = g7) w5 wS → wS.cell? ⟨g7, 0, none⟩ = some (.int .i64 (s)) → wS.cell? ⟨g7, 1, none⟩ = some (.int .i64 (s)) → wS.cell? ⟨g7, 2, none⟩ = some (.int .i64 0) → wS.cell? ⟨g7, 3, none⟩ = some (.int .i64 0) → (∀ j, wS.frozen? ⟨g7, j, none⟩ = false) → wS.ownsRow (g7 + 1) 3 1 (.slice (AA k) q (CC k)) q (intCells (rowL (halvesP n) k)) →
                ∀ (o : Obj) (v' : Value) (w' : World) (A2 : Option Addr) (c2 : Nat), v' = .slice A2 1 c2 → w'.ownsRow w5.heap.size 22 1 v' (0 + 1) (ssCells (fun _ => none) (fun _ => 0) (rowL []) 0 ++ [.slice (AA k) q (CC k)]) → (wS.alloc o).grownBy w' none → EvSt w5 g7 (g7 + 1) W ((halvesP n).take (k + 1)) A2 1 c2 w') := by
              intro wS hch h0 h1 h2 h3 hf hro o v' w' A2 c2 hv hown hgr
              subst hv
              have hba : Below wS.heap.size wS w' := gb_new (Nat.le_refl _) ((Below.refl wS.heap.size wS).alloc (Nat.le_refl _) o) hgr (fun g hg => by cases hg)
              have hgs : g7 < wS.heap.size := by have := hch.size; omega
              have hq1' := HQ1.out
              refine ⟨hch.trans (Chg.of_below hba (Nat.le_refl _)), ?_, by rw [HEV.out.1]; rfl, by rw [HEV.out.2]; exact (hba.cell (p := ⟨g7, 0, none⟩) hgs).trans h0, ⟨s, (hba.cell (p := ⟨g7, 1, none⟩) hgs).trans h1, .inr (by rw [HEV.out.2, HALL.out]; try (have a := HL3.out; have b := HMV.out; omega))⟩, (hba.cell (p := ⟨g7, 2, none⟩) hgs).trans h2, (hba.cell (p := ⟨g7, 3, none⟩) hgs).trans h3, fun j => (hba.frozen (p := ⟨g7, j, none⟩) hgs).trans (hf j)⟩
              rw [HEV.out.1]
              have hp : EvAt w' w5.heap.size (g7 + 1) (.slice A2 1 c2) (0 + 1) ([] ++ [rowL (halvesP n) k]) := (EvAt.nil (wS.alloc o) w5.heap.size (g7 + 1) []).push rfl (by rw [hq1']; exact own_later hro ((Below.refl wS.heap.size wS).alloc (Nat.le_refl _) o) (Nat.le_refl _)) hgr (fun A0 C0 _ => by rw [hq1']; exact hown)
              exact hp
            by_cases hn0 : n' = 0
            · subst hn0
              go_wp2
              have c0A := EA.out.c0
              obtain ⟨zA, c1A, _⟩ := EA.out.c1
              have c2A := EA.out.c2
              have c3A := EA.out.c3
              have f0A := EA.out.f
              clear c0 hz1c c2 c3 f0 f1 f2 f3 p1
              generalize wr.alloc (.cells #[.int .i64 (s), .int .i64 (s), .int .i64 0, .int .i64 0] 52) = wA at *
              generalize wr.heap.size = gA at *
              have g0A := f0A 0
              have g1A := f0A 1
              have g2A := f0A 2
              have g3A := f0A 3
              have HF0A := Lib.hid f0A
              clear f0A
              go_still_tail 2, (by kernel_rfl)
              change wpList _ _ _ _ _ wA.drew
              have d0 : wA.drew.cell? ⟨g7, 0, none⟩ = some (.int .i64 (bkL W ((halvesP n).take k))) := c0A
              have d1 : wA.drew.cell? ⟨g7, 1, none⟩ = some (.int .i64 zA) := c1A
              have d2 : wA.drew.cell? ⟨g7, 2, none⟩ = some (.int .i64 0) := c2A
              have d3 : wA.drew.cell? ⟨g7, 3, none⟩ = some (.int .i64 0) := c3A
              have e0 : wA.drew.cell? ⟨gA, 0, none⟩ = some (.int .i64 (s)) := a0
              have e1 : wA.drew.cell? ⟨gA, 1, none⟩ = some (.int .i64 (s)) := a1
              have e2 : wA.drew.cell? ⟨gA, 2, none⟩ = some (.int .i64 0) := a2
              have e3 : wA.drew.cell? ⟨gA, 3, none⟩ = some (.int .i64 0) := a3
              have k0 : wA.drew.frozen? ⟨g7, 0, none⟩ = false := g0A
              have k1 : wA.drew.frozen? ⟨g7, 1, none⟩ = false := g1A
              have k2 : wA.drew.frozen? ⟨g7, 2, none⟩ = false := g2A
              have k3 : wA.drew.frozen? ⟨g7, 3, none⟩ = false := g3A
              have KF : Hid (∀ j, wA.drew.frozen? ⟨g7, j, none⟩ = false) := fun j => HF0A.out j
              have hgAd : gA < wA.drew.heap.size := hgA
              have CHD : Hid (Chg (· = g7) w5 wA.drew) := EA.out.chg.trans (Chg.of_below (Below.refl wA.heap.size wA).drew (Nat.le_refl _))
              have ROWD : Hid (wA.drew.ownsRow (g7 + 1) 3 1 (.slice (AA k) q (CC k)) q (intCells (rowL (halvesP n) k))) := own_later ROWA.out (Below.refl wA.heap.size wA).drew (Nat.le_refl _)
              clear c0A c1A c2A c3A a0 a1 a2 a3 g0A g1A g2A g3A HF0A hgA EA ROWA HK
              generalize wA.drew = wd at *
              have hne7 : gA ≠ g7 := by omega
              have CHS : Hid (Chg (· = g7) w5 ((((wd.setCell ⟨g7, 0, none⟩ (.int .i64 (s))).setCell ⟨g7, 1, none⟩ (.int .i64 (s))).setCell ⟨g7, 2, none⟩ (.int .i64 0)).setCell ⟨g7, 3, none⟩ (.int .i64 0))) :=
                (((CHD.out.trans (chg_setH g7 0 _ _)).trans (chg_setH g7 1 _ _)).trans (chg_setH g7 2 _ _)).trans (chg_setH g7 3 _ _)
              have ROWS : Hid (((((wd.setCell ⟨g7, 0, none⟩ (.int .i64 (s))).setCell ⟨g7, 1, none⟩ (.int .i64 (s))).setCell ⟨g7, 2, none⟩ (.int .i64 0)).setCell ⟨g7, 3, none⟩ (.int .i64 0)).ownsRow (g7 + 1) 3 1 (.slice (AA k) q (CC k)) q (intCells (rowL (halvesP n) k))) :=
                ((((chg_setH g7 0 _ _).trans (chg_setH g7 1 _ _)).trans (chg_setH g7 2 _ _)).trans (chg_setH g7 3 _ _)).own ROWD.out (fun g hg => by have := (ROWD.out.lt g hg).1; show ¬ g = g7; omega)
              obtain ⟨C0, C1, C2, C3⟩ := set4_cells (g := g7) (v0 := .int .i64 (s)) (v1 := .int .i64 (s)) (v2 := .int .i64 0) (v3 := .int .i64 0) d0 d1 d2 d3
              have E0 := (set4_far (g := g7) (v0 := .int .i64 (s)) (v1 := .int .i64 (s)) (v2 := .int .i64 0) (v3 := .int .i64 0) wd hne7 0).trans e0
              have E1 := (set4_far (g := g7) (v0 := .int .i64 (s)) (v1 := .int .i64 (s)) (v2 := .int .i64 0) (v3 := .int .i64 0) wd hne7 1).trans e1
              have E2 := (set4_far (g := g7) (v0 := .int .i64 (s)) (v1 := .int .i64 (s)) (v2 := .int .i64 0) (v3 := .int .i64 0) wd hne7 2).trans e2
              have E3 := (set4_far (g := g7) (v0 := .int .i64 (s)) (v1 := .int .i64 (s)) (v2 := .int .i64 0) (v3 := .int .i64 0) wd hne7 3).trans e3
              have KS : Hid (∀ j, ((((wd.setCell ⟨g7, 0, none⟩ (.int .i64 (s))).setCell ⟨g7, 1, none⟩ (.int .i64 (s))).setCell ⟨g7, 2, none⟩ (.int .i64 0)).setCell ⟨g7, 3, none⟩ (.int .i64 0)).frozen? ⟨g7, j, none⟩ = false) := fun j => by
                rw [World.frozen?_setCell, World.frozen?_setCell, World.frozen?_setCell, World.frozen?_setCell]; exact KF.out j
              have hsz5 : w5.heap.size ≤ wd.heap.size := CHD.out.size
              have hnw := new1 ((((wd.setCell ⟨g7, 0, none⟩ (.int .i64 (s))).setCell ⟨g7, 1, none⟩ (.int .i64 (s))).setCell ⟨g7, 2, none⟩ (.int .i64 0)).setCell ⟨g7, 3, none⟩ (.int .i64 0)) 22 (.slice (AA k) q (CC k))
              rw [show ((((wd.setCell ⟨g7, 0, none⟩ (.int .i64 (s))).setCell ⟨g7, 1, none⟩ (.int .i64 (s))).setCell ⟨g7, 2, none⟩ (.int .i64 0)).setCell ⟨g7, 3, none⟩ (.int .i64 0)).heap.size = wd.heap.size by simp] at hnw
              have hnil := World.ownsRow_nil (((((wd.setCell ⟨g7, 0, none⟩ (.int .i64 (s))).setCell ⟨g7, 1, none⟩ (.int .i64 (s))).setCell ⟨g7, 2, none⟩ (.int .i64 0)).setCell ⟨g7, 3, none⟩ (.int .i64 0)).alloc (.cells #[.slice (AA k) q (CC k)] 22)) w5.heap.size 22 1
              have HNIL := Lib.hid hnil
              have hbs : w5.heap.size ≤ (((((wd.setCell ⟨g7, 0, none⟩ (.int .i64 (s))).setCell ⟨g7, 1, none⟩ (.int .i64 (s))).setCell ⟨g7, 2, none⟩ (.int .i64 0)).setCell ⟨g7, 3, none⟩ (.int .i64 0)).alloc (.cells #[.slice (AA k) q (CC k)] 22)).heap.size := by simp; omega
              have CC0 := Lib.hid C0
              have CC1 := Lib.hid C1
              have CC2 := Lib.hid C2
              have CC3 := Lib.hid C3
              have heq := HEQ.out
              have hc3 : 0 + 1 ≤ maxLen := by simp only [maxLen]; omega
              clear hnil KF CHD ROWD
              go_wp2_with (at_builtin; refine wpList_append_own_at _ rfl (.tmp 53) (.tmp 55) 50 rfl w5.heap.size 22 i1 (.slice none 0 0) 1 24 Try.underlying50 hi1 hy0 hy1 hy2 rfl (by decide) _ _ _ rfl HNIL.out ⟨wd.heap.size, 0, none⟩ 1 1 [.slice (AA k) q (CC k)] rfl rfl hnw (by intro u hu; simp at hu; subst hu; rfl) hc3 (by omega) hbs ?_)
              intro v' w9 hown hgrow _ _
              obtain ⟨A2, c2, rfl⟩ := own_slice hown
              have HNEW := Lib.hid (TAIL.out _ CHS.out CC0.out CC1.out CC2.out CC3.out KS.out ROWS.out _ _ w9 A2 c2 rfl hown hgrow)
              clear hown hgrow TAIL CHS KS ROWS CC0 CC1 CC2 CC3 C0 C1 C2 C3 E0 E1 E2 E3 d0 d1 d2 d3 e0 e1 e2 e3 k0 k1 k2 k3
              go_wp2
              go_roundw
              case rel => exact ⟨k + 1, A2, 1, c2, by omega, by go_num, rfl, HNEW.out⟩
              case measure => simp [intOf]; omega
            · have hlt2 : bk < s := by omega
              have hne0 : ((n' : Int) == 0) = false := by simp; exact hn0
              have hd : decide (bk < s) = true := by simp; omega
              have cbk : (wr.alloc (.cells #[.int .i64 (s), .int .i64 (s), .int .i64 0, .int .i64 0] 52)).cell? ⟨g7, 0, none⟩ = some (.int .i64 bk) := by have h := EA.out.c0; rw [HBK.out] at h; exact h
              go_wp2
              have c0A := EA.out.c0
              obtain ⟨zA, c1A, _⟩ := EA.out.c1
              have c2A := EA.out.c2
              have c3A := EA.out.c3
              have f0A := EA.out.f
              clear cbk c0 hz1c c2 c3 f0 f1 f2 f3 p1
              generalize wr.alloc (.cells #[.int .i64 (s), .int .i64 (s), .int .i64 0, .int .i64 0] 52) = wA at *
              generalize wr.heap.size = gA at *
              have g0A := f0A 0
              have g1A := f0A 1
              have g2A := f0A 2
              have g3A := f0A 3
              have HF0A := Lib.hid f0A
              clear f0A
              go_still_tail 2, (by kernel_rfl)
              change wpList _ _ _ _ _ wA.drew
              have d0 : wA.drew.cell? ⟨g7, 0, none⟩ = some (.int .i64 (bkL W ((halvesP n).take k))) := c0A
              have d1 : wA.drew.cell? ⟨g7, 1, none⟩ = some (.int .i64 zA) := c1A
              have d2 : wA.drew.cell? ⟨g7, 2, none⟩ = some (.int .i64 0) := c2A
              have d3 : wA.drew.cell? ⟨g7, 3, none⟩ = some (.int .i64 0) := c3A
              have e0 : wA.drew.cell? ⟨gA, 0, none⟩ = some (.int .i64 (s)) := a0
              have e1 : wA.drew.cell? ⟨gA, 1, none⟩ = some (.int .i64 (s)) := a1
              have e2 : wA.drew.cell? ⟨gA, 2, none⟩ = some (.int .i64 0) := a2
              have e3 : wA.drew.cell? ⟨gA, 3, none⟩ = some (.int .i64 0) := a3
              have k0 : wA.drew.frozen? ⟨g7, 0, none⟩ = false := g0A
              have k1 : wA.drew.frozen? ⟨g7, 1, none⟩ = false := g1A
              have k2 : wA.drew.frozen? ⟨g7, 2, none⟩ = false := g2A
              have k3 : wA.drew.frozen? ⟨g7, 3, none⟩ = false := g3A
              have KF : Hid (∀ j, wA.drew.frozen? ⟨g7, j, none⟩ = false) := fun j => HF0A.out j
              have hgAd : gA < wA.drew.heap.size := hgA
              have CHD : Hid (Chg (· = g7) w5 wA.drew) := EA.out.chg.trans (Chg.of_below (Below.refl wA.heap.size wA).drew (Nat.le_refl _))
              have ROWD : Hid (wA.drew.ownsRow (g7 + 1) 3 1 (.slice (AA k) q (CC k)) q (intCells (rowL (halvesP n) k))) := own_later ROWA.out (Below.refl wA.heap.size wA).drew (Nat.le_refl _)
              clear c0A c1A c2A c3A a0 a1 a2 a3 g0A g1A g2A g3A HF0A hgA EA ROWA HK
              generalize wA.drew = wd at *
              have hne7 : gA ≠ g7 := by omega
              have CHS : Hid (Chg (· = g7) w5 ((((wd.setCell ⟨g7, 0, none⟩ (.int .i64 (s))).setCell ⟨g7, 1, none⟩ (.int .i64 (s))).setCell ⟨g7, 2, none⟩ (.int .i64 0)).setCell ⟨g7, 3, none⟩ (.int .i64 0))) :=
                (((CHD.out.trans (chg_setH g7 0 _ _)).trans (chg_setH g7 1 _ _)).trans (chg_setH g7 2 _ _)).trans (chg_setH g7 3 _ _)
              have ROWS : Hid (((((wd.setCell ⟨g7, 0, none⟩ (.int .i64 (s))).setCell ⟨g7, 1, none⟩ (.int .i64 (s))).setCell ⟨g7, 2, none⟩ (.int .i64 0)).setCell ⟨g7, 3, none⟩ (.int .i64 0)).ownsRow (g7 + 1) 3 1 (.slice (AA k) q (CC k)) q (intCells (rowL (halvesP n) k))) :=
                ((((chg_setH g7 0 _ _).trans (chg_setH g7 1 _ _)).trans (chg_setH g7 2 _ _)).trans (chg_setH g7 3 _ _)).own ROWD.out (fun g hg => by have := (ROWD.out.lt g hg).1; show ¬ g = g7; omega)
              obtain ⟨C0, C1, C2, C3⟩ := set4_cells (g := g7) (v0 := .int .i64 (s)) (v1 := .int .i64 (s)) (v2 := .int .i64 0) (v3 := .int .i64 0) d0 d1 d2 d3
              have E0 := (set4_far (g := g7) (v0 := .int .i64 (s)) (v1 := .int .i64 (s)) (v2 := .int .i64 0) (v3 := .int .i64 0) wd hne7 0).trans e0
              have E1 := (set4_far (g := g7) (v0 := .int .i64 (s)) (v1 := .int .i64 (s)) (v2 := .int .i64 0) (v3 := .int .i64 0) wd hne7 1).trans e1
              have E2 := (set4_far (g := g7) (v0 := .int .i64 (s)) (v1 := .int .i64 (s)) (v2 := .int .i64 0) (v3 := .int .i64 0) wd hne7 2).trans e2
              have E3 := (set4_far (g := g7) (v0 := .int .i64 (s)) (v1 := .int .i64 (s)) (v2 := .int .i64 0) (v3 := .int .i64 0) wd hne7 3).trans e3
              have KS : Hid (∀ j, ((((wd.setCell ⟨g7, 0, none⟩ (.int .i64 (s))).setCell ⟨g7, 1, none⟩ (.int .i64 (s))).setCell ⟨g7, 2, none⟩ (.int .i64 0)).setCell ⟨g7, 3, none⟩ (.int .i64 0)).frozen? ⟨g7, j, none⟩ = false) := fun j => by
                rw [World.frozen?_setCell, World.frozen?_setCell, World.frozen?_setCell, World.frozen?_setCell]; exact KF.out j
              have hsz5 : w5.heap.size ≤ wd.heap.size := CHD.out.size
              have hnw := new1 ((((wd.setCell ⟨g7, 0, none⟩ (.int .i64 (s))).setCell ⟨g7, 1, none⟩ (.int .i64 (s))).setCell ⟨g7, 2, none⟩ (.int .i64 0)).setCell ⟨g7, 3, none⟩ (.int .i64 0)) 22 (.slice (AA k) q (CC k))
              rw [show ((((wd.setCell ⟨g7, 0, none⟩ (.int .i64 (s))).setCell ⟨g7, 1, none⟩ (.int .i64 (s))).setCell ⟨g7, 2, none⟩ (.int .i64 0)).setCell ⟨g7, 3, none⟩ (.int .i64 0)).heap.size = wd.heap.size by simp] at hnw
              have hnil := World.ownsRow_nil (((((wd.setCell ⟨g7, 0, none⟩ (.int .i64 (s))).setCell ⟨g7, 1, none⟩ (.int .i64 (s))).setCell ⟨g7, 2, none⟩ (.int .i64 0)).setCell ⟨g7, 3, none⟩ (.int .i64 0)).alloc (.cells #[.slice (AA k) q (CC k)] 22)) w5.heap.size 22 1
              have HNIL := Lib.hid hnil
              have hbs : w5.heap.size ≤ (((((wd.setCell ⟨g7, 0, none⟩ (.int .i64 (s))).setCell ⟨g7, 1, none⟩ (.int .i64 (s))).setCell ⟨g7, 2, none⟩ (.int .i64 0)).setCell ⟨g7, 3, none⟩ (.int .i64 0)).alloc (.cells #[.slice (AA k) q (CC k)] 22)).heap.size := by simp; omega
              have CC0 := Lib.hid C0
              have CC1 := Lib.hid C1
              have CC2 := Lib.hid C2
              have CC3 := Lib.hid C3
              have heq := HEQ.out
              have hc3 : 0 + 1 ≤ maxLen := by simp only [maxLen]; omega
              clear hnil KF CHD ROWD
              go_wp2_with (at_builtin; refine wpList_append_own_at _ rfl (.tmp 53) (.tmp 55) 50 rfl w5.heap.size 22 i1 (.slice none 0 0) 1 24 Try.underlying50 hi1 hy0 hy1 hy2 rfl (by decide) _ _ _ rfl HNIL.out ⟨wd.heap.size, 0, none⟩ 1 1 [.slice (AA k) q (CC k)] rfl rfl hnw (by intro u hu; simp at hu; subst hu; rfl) hc3 (by omega) hbs ?_)
              intro v' w9 hown hgrow _ _
              obtain ⟨A2, c2, rfl⟩ := own_slice hown
              have HNEW := Lib.hid (TAIL.out _ CHS.out CC0.out CC1.out CC2.out CC3.out KS.out ROWS.out _ _ w9 A2 c2 rfl hown hgrow)
              clear hown hgrow TAIL CHS KS ROWS CC0 CC1 CC2 CC3 C0 C1 C2 C3 E0 E1 E2 E3 d0 d1 d2 d3 e0 e1 e2 e3 k0 k1 k2 k3
              go_wp2
              go_roundw
              case rel => exact ⟨k + 1, A2, 1, c2, by omega, by go_num, rfl, HNEW.out⟩
              case measure => simp [intOf]; omega
          · have hn0 : ¬ n' = 0 := fun h => hre (.inl h)
            have hle : s ≤ bk := by have h9 : ¬ bk < s := fun h => hre (.inr h); omega
            have hDne : ¬ (halvesP n).take k = [] := fun e => by
              have h := HK.out.len
              rw [e] at h
              exact hn0 (by rw [← h]; rfl)
            have hz1v : z1 = all - bk := by
              rcases HZ1E.out with e | e
              · exact absurd e hDne
              · exact e
            have hbk12 : bk ≤ 20000 := by
              rcases bkL_att W ((halvesP n).take k) 0 with e | ⟨t, ht, e⟩
              · have : bk = 0 := by rw [← HBK.out]; exact e
                omega
              · have h1 := halvesP_mn (W := W) (by have := HLL.out; omega) (fun z hz => (HWZ.out z hz).1) t (by rw [HLL.out]; exact List.mem_of_mem_take ht)
                have h2 : mnH W t = bk := by rw [← HBK.out]; exact e
                have h3 : mnH W t ≤ W.sum := by unfold mnH; omega
                have := HALL.out
                omega
            have wf3 : (Lit.int .i64 bk).wf = true := WalkArith.wf_i64 (by omega)
            have wf4 : (Lit.int .i64 z1).wf = true := WalkArith.wf_i64 (by omega)
            have hne0 : ((n' : Int) == 0) = false := by simp; exact hn0
            have hd : decide (bk < s) = false := by simp; exact hle
            have cbk : (wr.alloc (.cells #[.int .i64 (s), .int .i64 (s), .int .i64 0, .int .i64 0] 52)).cell? ⟨g7, 0, none⟩ = some (.int .i64 bk) := by have h := EA.out.c0; rw [HBK.out] at h; exact h
            have cz1 : (wr.alloc (.cells #[.int .i64 (s), .int .i64 (s), .int .i64 0, .int .i64 0] 52)).cell? ⟨g7, 1, none⟩ = some (.int .i64 z1) := by rw [World.cell?_alloc_lt _ _ _ hwr]; exact hz1c
            have cz2 : (wr.alloc (.cells #[.int .i64 (s), .int .i64 (s), .int .i64 0, .int .i64 0] 52)).cell? ⟨g7, 2, none⟩ = some (.int .i64 0) := EA.out.c2
            have cz3 : (wr.alloc (.cells #[.int .i64 (s), .int .i64 (s), .int .i64 0, .int .i64 0] 52)).cell? ⟨g7, 3, none⟩ = some (.int .i64 0) := EA.out.c3
            by_cases hsm : s = bk
            · have hm := HMV.out
              have hE1 : evenL W ((halvesP n).take (k + 1)) = evenL W ((halvesP n).take k) ++ [rowL (halvesP n) k] := by
                rw [HT.out]; exact evenL_same (by rw [HMNQ.out, HBK.out, hm]; exact hsm)
              have hE2 : bkL W ((halvesP n).take (k + 1)) = bkL W ((halvesP n).take k) := by
                rw [HT.out, bkL_snoc, HMNQ.out, HBK.out, hm]; omega
              have HE1 := Lib.hid hE1
              have HE2 := Lib.hid hE2
              have heq := fun wx => eql_ws (s) (s) bk z1 wf1 wf2 hsm (by rw [hz1v, HL3.out, hm, hsm]) wx
              have HZV := Lib.hid hz1v
              obtain ⟨A0, C0, htop0, hrows0⟩ := EA.out.ev
              have HTOP0 := Lib.hid htop0
              have HROWS0 := Lib.hid hrows0
              have hbo : Below (wr.alloc (.cells #[.int .i64 (s), .int .i64 (s), .int .i64 0, .int .i64 0] 52)).heap.size (wr.alloc (.cells #[.int .i64 (s), .int .i64 (s), .int .i64 0, .int .i64 0] 52)) ((wr.alloc (.cells #[.int .i64 (s), .int .i64 (s), .int .i64 0, .int .i64 0] 52)).alloc (.cells #[.slice (AA k) q (CC k)] 22)) := (Below.refl _ _).alloc (Nat.le_refl _) _
              have HBO := Lib.hid hbo
              have HTOPA := Lib.hid (own_later htop0 hbo (Nat.le_refl _))
              have hnw := new1 (wr.alloc (.cells #[.int .i64 (s), .int .i64 (s), .int .i64 0, .int .i64 0] 52)) 22 (.slice (AA k) q (CC k))
              rw [show (wr.alloc (.cells #[.int .i64 (s), .int .i64 (s), .int .i64 0, .int .i64 0] 52)).heap.size = wr.heap.size + 1 by simp] at hnw
              have hbs : w5.heap.size ≤ ((wr.alloc (.cells #[.int .i64 (s), .int .i64 (s), .int .i64 0, .int .i64 0] 52)).alloc (.cells #[.slice (AA k) q (CC k)] 22)).heap.size := by have := HK.out.chg.size; simp; omega
              have hc3 : n' + 1 ≤ maxLen := by simp only [maxLen]; omega
              clear hm hE1 hE2 hz1v htop0 hrows0 hbo hsm hre hDne c0 hz1c c2 c3 f0 f1 f2 f3
              go_wp2_with (at_builtin; refine wpList_append_own_at _ rfl (.tmp 53) (.tmp 55) 50 rfl w5.heap.size 22 i1 (.slice none 0 0) 1 24 Try.underlying50 hi1 hy0 hy1 hy2 rfl (by decide) _ _ _ rfl HTOPA.out ⟨wr.heap.size + 1, 0, none⟩ 1 1 [.slice (AA k) q (CC k)] rfl rfl hnw (by intro u hu; simp at hu; subst hu; rfl) hc3 (by omega) hbs ?_)
              intro v' w9 hown hgrow _ _
              obtain ⟨A2, c2', rfl⟩ := own_slice hown
              have hgb : ∀ g, (Value.slice A' n' c').ownBlock = some g → w5.heap.size ≤ g := fun g hg => (HTOP0.out.lt g hg).1
              have hgw : g7 < ((wr.alloc (.cells #[.int .i64 (s), .int .i64 (s), .int .i64 0, .int .i64 0] 52)).alloc (.cells #[.slice (AA k) q (CC k)] 22)).heap.size := by simp; omega
              have hbl9 := hgrow.block g7 hgw (fun e => by have := hgb g7 (by simpa using e.symm); omega)
              have EO := EA.out.below HBO.out (by simp; omega)
              have HNEW : Hid (EvSt w5 g7 (g7 + 1) W ((halvesP n).take (k + 1)) A2 (n' + 1) c2' w9) := by
                refine ⟨EO.chg.of_row hgrow hgb, ?_, by rw [HE1.out, List.length_append, EO.len]; rfl, ?_, ?_, ?_, ?_, fun j => ?_⟩
                · rw [HE1.out]
                  have hq1' := HQ1.out
                  exact EvAt.push2 (own_later HTOP0.out HBO.out (Nat.le_refl _)) (fun i hi => own_later (HROWS0.out i hi) HBO.out (Nat.le_refl _)) EO.len (by rw [hq1']; exact own_later ROWA.out HBO.out (Nat.le_refl _)) hgrow (by rw [hq1']; exact hown)
                · rw [HE2.out]; exact (World.cell?_of_block hbl9).trans EO.c0
                · refine ⟨z1, (World.cell?_of_block hbl9).trans ((World.cell?_alloc_lt _ _ _ (by simp; omega)).trans cz1), .inr ?_⟩
                  rw [HE2.out, HBK.out, HALL.out]; exact HZV.out
                · exact (World.cell?_of_block hbl9).trans EO.c2
                · exact (World.cell?_of_block hbl9).trans EO.c3
                · exact (World.frozen?_of_block hbl9).trans (EO.f j)
              clear hown hgrow hgb hgw hbl9 EO
              go_wp2
              go_roundw
              case rel => exact ⟨k + 1, A2, n' + 1, c2', by omega, by go_num, rfl, HNEW.out⟩
              case measure => simp [intOf]; omega
            · have hm := HMV.out
              have hE1 : evenL W ((halvesP n).take (k + 1)) = evenL W ((halvesP n).take k) := by
                rw [HT.out]; exact evenL_less (by rw [HMNQ.out, HBK.out, hm]; omega)
              have hE2 : bkL W ((halvesP n).take (k + 1)) = bkL W ((halvesP n).take k) := by
                rw [HT.out, bkL_snoc, HMNQ.out, HBK.out, hm]; omega
              have heq := fun wx => neq_ws (s) (s) bk z1 wf1 wf2 wf3 wf4 hsm wx
              have HNEW : Hid (EvSt w5 g7 (g7 + 1) W ((halvesP n).take (k + 1)) A' n' c' (wr.alloc (.cells #[.int .i64 (s), .int .i64 (s), .int .i64 0, .int .i64 0] 52))) := by
                have EO := EA.out
                refine ⟨EO.chg, by rw [hE1]; exact EO.ev, by rw [hE1]; exact EO.len, by rw [hE2]; exact EO.c0, ⟨z1, cz1, .inr (by rw [hE2, HBK.out, HALL.out]; exact hz1v)⟩, EO.c2, EO.c3, EO.f⟩
              clear hm hE1 hE2 hz1v hsm hre hDne c0 hz1c c2 c3 f0 f1 f2 f3
              go_wp2
              go_roundw
              case rel => exact ⟨k + 1, A', n', c', by omega, by go_num, rfl, HNEW.out⟩
              case measure => simp [intOf]; omega

    · have hkN : (halvesP n).take k = halvesP n := List.take_of_length_le (by rw [HLEN.out]; omega)
      rw [hkN] at hK
      have HK := Lib.hid hK
      obtain ⟨z1, hz1c, hz1e⟩ := hK.c1
      have hz1v : z1 = W.sum - bkL W (halvesP n) := by
        rcases hz1e with e | e
        · exfalso
          have := extE_len (n - 1) 1 [0]
          have h2 : (halvesP n).length = 2 ^ (n - 1) := this
          rw [e] at h2
          have := Nat.one_le_two_pow (n := n - 1)
          simp at h2
          omega
        · exact e
      have c0 := hK.c0
      have c2 := hK.c2
      have c3 := hK.c3
      have hwr : g7 < wr.heap.size := by have := hK.chg.size; omega
      have hrr : w.heap.size < wr.heap.size := by omega
      have hnr : ¬ w.heap.size = g7 := by omega
      have r0 := hK.chg.cell RZ5.out.1 hnr
      have r1 := hK.chg.cell RZ5.out.2.1 hnr
      have r2 := hK.chg.cell RZ5.out.2.2.1 hnr
      have r3 := hK.chg.cell RZ5.out.2.2.2.1 hnr
      have hrb := hK.chg.block w.heap.size (by omega) hnr
      have q0 : wr.frozen? ⟨w.heap.size, 0, none⟩ = false := (World.frozen?_of_block hrb).trans (RZ5.out.2.2.2.2 0)
      have q1 : wr.frozen? ⟨w.heap.size, 1, none⟩ = false := (World.frozen?_of_block hrb).trans (RZ5.out.2.2.2.2 1)
      have q2 : wr.frozen? ⟨w.heap.size, 2, none⟩ = false := (World.frozen?_of_block hrb).trans (RZ5.out.2.2.2.2 2)
      have q3 : wr.frozen? ⟨w.heap.size, 3, none⟩ = false := (World.frozen?_of_block hrb).trans (RZ5.out.2.2.2.2 3)
      rw [hz1v] at hz1c
      clear hz1v hz1e hkN hK hrb
      generalize hbk : bkL W (halvesP n) = bk at *
      have HBK := Lib.hid hbk
      clear hbk
      generalize hmx : W.sum - bk = mx at *
      have HMX := Lib.hid hmx
      clear hmx
      go_wp2
      go_still_tail 3, (by kernel_rfl)
      change wpList _ _ _ _ _ wr.drew
      have c0' : wr.drew.cell? ⟨g7, 0, none⟩ = some (.int .i64 bk) := c0
      have c1' : wr.drew.cell? ⟨g7, 1, none⟩ = some (.int .i64 mx) := hz1c
      have c2' : wr.drew.cell? ⟨g7, 2, none⟩ = some (.int .i64 0) := c2
      have c3' : wr.drew.cell? ⟨g7, 3, none⟩ = some (.int .i64 0) := c3
      have r0' : wr.drew.cell? ⟨w.heap.size, 0, none⟩ = some (.int .i64 0) := r0
      have r1' : wr.drew.cell? ⟨w.heap.size, 1, none⟩ = some (.int .i64 0) := r1
      have r2' : wr.drew.cell? ⟨w.heap.size, 2, none⟩ = some (.int .i64 0) := r2
      have r3' : wr.drew.cell? ⟨w.heap.size, 3, none⟩ = some (.int .i64 0) := r3
      have q0' : wr.drew.frozen? ⟨w.heap.size, 0, none⟩ = false := q0
      have q1' : wr.drew.frozen? ⟨w.heap.size, 1, none⟩ = false := q1
      have q2' : wr.drew.frozen? ⟨w.heap.size, 2, none⟩ = false := q2
      have q3' : wr.drew.frozen? ⟨w.heap.size, 3, none⟩ = false := q3
      have hEV := (HK.out.below (Below.refl wr.heap.size wr).drew hwr)
      have EVD : Hid (EvAt wr.drew w5.heap.size (g7 + 1) (.slice A' n' c') n' (evenL W (halvesP n))) := hEV.ev
      have BD : Hid (Below w.heap.size w wr.drew) := hEV.chg.below HB5.out (fun i hi => by have : i = g7 := hi; omega)
      have LEN : Hid ((evenL W (halvesP n)).length = n') := HK.out.len
      clear c0 hz1c c2 c3 r0 r1 r2 r3 q0 q1 q2 q3 HK hEV hwr hrr
      generalize wr.drew = wd at *
      have EVS : Hid (EvAt ((((wd.setCell ⟨w.heap.size, 0, none⟩ (.int .i64 bk)).setCell ⟨w.heap.size, 1, none⟩ (.int .i64 mx)).setCell ⟨w.heap.size, 2, none⟩ (.int .i64 0)).setCell ⟨w.heap.size, 3, none⟩ (.int .i64 0)) w.heap.size w.heap.size (.slice A' n' c') n' (evenL W (halvesP n))) :=
        (EVD.out.chg ((((chg_setH w.heap.size 0 _ _).trans (chg_setH w.heap.size 1 _ _)).trans (chg_setH w.heap.size 2 _ _)).trans (chg_setH w.heap.size 3 _ _)) (fun i hi => by have : i = w.heap.size := hi; omega)).base (by omega) (by omega)
      have BS : Hid (Below w.heap.size w ((((wd.setCell ⟨w.heap.size, 0, none⟩ (.int .i64 bk)).setCell ⟨w.heap.size, 1, none⟩ (.int .i64 mx)).setCell ⟨w.heap.size, 2, none⟩ (.int .i64 0)).setCell ⟨w.heap.size, 3, none⟩ (.int .i64 0))) :=
        bset (p := ⟨w.heap.size, 3, none⟩) (Nat.le_refl _) _ (bset (p := ⟨w.heap.size, 2, none⟩) (Nat.le_refl _) _ (bset (p := ⟨w.heap.size, 1, none⟩) (Nat.le_refl _) _ (bset (p := ⟨w.heap.size, 0, none⟩) (Nat.le_refl _) _ BD.out)))
      go_wp2
      refine bodyPost_ret (v := .tuple #[.slice A' n' c', ws4 bk mx]) (by simp [results, Try.results49, go_sem, *]) rfl ⟨A', n', c', by rw [HBK.out, HMX.out], LEN.out, EVS.out, BS.out⟩

end Go.Proofs.Ytkijcpbjjbhnhaa
