/-
  Contracts: IsClue, IsPuzzle of the program (the recovered door areClues) and of the model. Conditions: none.
-/
import Derived.Test.YtghlgmbekgfmnabDoorPzW0
import Derived.Test.YtghlgmbekgfmnabDoorPuzK
import Derived.Tactics
import Derived.Tactics2
import Derived.Defers
import Derived.Recover
import Derived.Laws.Pointers
import Derived.Stop.Asserts
namespace Go.Proofs.YtghlgmbekgfmnabDoor
open Go.RowKit
set_option linter.unusedVariables false
set_option linter.unusedSimpArgs false

set_option maxHeartbeats 400000 in
theorem mostOfClue_any (k : Int) (w : World) :
    Calls Tryd.prog 93 #[.int .i64 k] w fun e w' => e = .returned (.tuple #[.int .i64 (mostA k), .int .i64 (mostB k)]) ∧ w = w' := by
  by_cases h1 : k = 1
  · subst h1
    go_enter Tryd.func93, Tryd.ntmps93
    go_wp2
    go_ret2
    exact ⟨rfl, rfl⟩
  by_cases h2 : k = 2
  · subst h2
    go_enter Tryd.func93, Tryd.ntmps93
    go_wp2
    go_ret2
    exact ⟨rfl, rfl⟩
  by_cases h4 : k = 4
  · subst h4
    go_enter Tryd.func93, Tryd.ntmps93
    go_wp2
    go_ret2
    exact ⟨rfl, rfl⟩
  have e1 : mostA k = 0 := by simp [mostA, h1, h4]
  have e2 : mostB k = 20 := by simp [mostB, h2]
  rw [e1, e2]
  have d1 : (k == 1) = false := by simpa using h1
  have d2 : (k == 2) = false := by simpa using h2
  have d4 : (k == 4) = false := by simpa using h4
  clear e1 e2
  go_enter Tryd.func93, Tryd.ntmps93
  go_wp2
  go_ret2
  exact ⟨rfl, rfl⟩

set_option maxHeartbeats 2000000 in
theorem requireClue_yes (k a b : Int) (w : World) (h : cluB (k, a, b) = true) :
    Calls Tryd.prog 76 #[bx3 k a b] w fun e w' => e = .returned (.tuple #[]) ∧ Below w.heap.size w w' := by
  obtain ⟨h1, h2, h3, h4, h5, h6⟩ := cluB_true h
  simp only at h1 h2 h3 h4 h5 h6
  have HM := Lib.hid (mostOfClue_any k)
  generalize mostA k = ma at *
  generalize mostB k = mb at *
  clear h
  go_enter Tryd.func76, Tryd.ntmps76
  go_wp2_with fail
  refine (HM.out _).mono ?_; rintro e wx ⟨rfl, rfl⟩
  go_wp2
  exact bodyPost_end (v := .tuple #[]) (by simp [results, Tryd.results76, go_sem]) rfl ⟨rfl, by (repeat (first | (with_reducible exact Below.refl _ _) | (with_reducible assumption) | (with_reducible refine Below.drew ?_) | ((with_reducible refine balloc ?_ _ ?_); · (first | (simp; done) | (simp; omega) | omega)) | ((with_reducible refine bset ?_ _ ?_); · (first | (simp; done) | (simp; omega) | omega)) | (with_reducible refine bdrewN _ ?_) | ((with_reducible refine bcall ?_ (by assumption) ?_); · (first | (simp; done) | (simp; omega) | omega))))⟩

theorem clu_no {p : Prop} (k a b ma mb : Int) (hB : ¬ (0 ≤ k ∧ k < 6 ∧ 0 ≤ a ∧ a ≤ ma ∧ 0 ≤ b ∧ b ≤ mb)) (h1 : k < 0 → p) (h2 : ¬ k < 0 → 6 ≤ k → p) (h3 : ¬ k < 0 → ¬ 6 ≤ k → a < 0 → p) (h4 : ¬ k < 0 → ¬ 6 ≤ k → ¬ a < 0 → ma < a → p)
    (h5 : ¬ k < 0 → ¬ 6 ≤ k → ¬ a < 0 → ¬ ma < a → b < 0 → p) (h6 : ¬ k < 0 → ¬ 6 ≤ k → ¬ a < 0 → ¬ ma < a → ¬ b < 0 → mb < b → p) : p := by
  by_cases a1 : k < 0
  · exact h1 a1
  by_cases a2 : 6 ≤ k
  · exact h2 a1 a2
  by_cases a3 : a < 0
  · exact h3 a1 a2 a3
  by_cases a4 : ma < a
  · exact h4 a1 a2 a3 a4
  by_cases a5 : b < 0
  · exact h5 a1 a2 a3 a4 a5
  exact h6 a1 a2 a3 a4 a5 (by omega)

set_option maxRecDepth 100000 in
set_option maxHeartbeats 4000000 in
theorem requireClue_no (k a b : Int) (w : World) (h : cluB (k, a, b) = false) :
    Calls Tryd.prog 76 #[bx3 k a b] w fun e w' => e = .panicked [{ v := .iface 101 (bx3 k a b), recovered := false }] ∧ Below w.heap.size w w' := by
  have hB : ¬ (0 ≤ k ∧ k < 6 ∧ 0 ≤ a ∧ a ≤ mostA k ∧ 0 ≤ b ∧ b ≤ mostB k) := of_decide_eq_false h
  have HM := Lib.hid (mostOfClue_any k)
  generalize mostA k = ma at *
  generalize mostB k = mb at *
  clear h
  refine clu_no k a b ma mb hB ?_ ?_ ?_ ?_ ?_ ?_
  all_goals
    intros
    clear hB
    go_enter Tryd.func76, Tryd.ntmps76
    go_wp2_with (go_at_call 93; refine (HM.out _).mono ?_; rintro e wx ⟨rfl, rfl⟩)
    exact ⟨rfl, rfl, by (repeat (first | (with_reducible exact Below.refl _ _) | (with_reducible assumption) | (with_reducible refine Below.drew ?_) | ((with_reducible refine balloc ?_ _ ?_); · (first | (simp; done) | (simp; omega) | omega)) | ((with_reducible refine bset ?_ _ ?_); · (first | (simp; done) | (simp; omega) | omega)) | (with_reducible refine bdrewN _ ?_) | ((with_reducible refine bcall ?_ (by assumption) ?_); · (first | (simp; done) | (simp; omega) | omega))))⟩

theorem catchC_yes (p : Addr) (x : Value) (a b c : Int) (older : List PanicEntry) (w : World) (hc : w.cell? p = some x) (hz : w.frozen? p = false) :
    CallsD Tryd.prog 75 #[.pointer (some p)] (.panicking ({ v := .iface 101 (bx3 a b c), recovered := false } :: older)) w fun e u' w' =>
      e = .returned (.tuple #[]) ∧ u' = .panicking ({ v := .iface 101 (bx3 a b c), recovered := true } :: older) ∧ ∃ w1 : World, Below w.heap.size w w1 ∧ w' = w1.setCell p (.bool false) := by
  have hta : ∀ wx : World, (Instr.typeAssert (.iface 101 (bx3 a b c)) 20 101 true).run Tryd.prog wx = .ok (.tuple #[bx3 a b c, .bool true]) wx := fun _ => by kernel_rfl
  have hlt := World.block_lt_of_cell? w _ hc
  have hc2 : ∀ o : Obj, (w.alloc o).cell? p = some x := fun o => (World.cell?_alloc_lt _ _ p hlt).trans hc
  have hz2 : ∀ o : Obj, (w.alloc o).frozen? p = false := fun o => (((Below.refl w.heap.size w).alloc (Nat.le_refl _) o).frozen hlt).trans hz
  refine callsD_of_wpS Tryd.func75 rfl fun c₀ cs hu => ?_
  apply wpS_seq
  apply wpS_region
  simp [wpOpsS, go_sem, recoverD, hu, Tryd.ntmps75, Exit.thenS, hta]
  apply wpS_region
  simp [wpOpsS, go_sem, hc2, hz2, bodyPostS, results, Tryd.results75]
  exact ⟨_, (Below.refl _ _).alloc (Nat.le_refl _) _, rfl⟩

theorem catchC_none (p : Addr) (x : Value) (w : World) (hc : w.cell? p = some x) (hz : w.frozen? p = false) :
    CallsD Tryd.prog 75 #[.pointer (some p)] .returning w fun e u' w' => e = .returned (.tuple #[]) ∧ u' = .returning ∧ ∃ w1 : World, Below w.heap.size w w1 ∧ w' = w1.setCell p (.bool true) := by
  have hta : ∀ wx : World, (Instr.typeAssert .nilIface 20 101 true).run Tryd.prog wx = .ok (.tuple #[bx3 0 0 0, .bool false]) wx := fun _ => by kernel_rfl
  have hlt := World.block_lt_of_cell? w _ hc
  have hc2 : ∀ o : Obj, (w.alloc o).cell? p = some x := fun o => (World.cell?_alloc_lt _ _ p hlt).trans hc
  have hz2 : ∀ o : Obj, (w.alloc o).frozen? p = false := fun o => (((Below.refl w.heap.size w).alloc (Nat.le_refl _) o).frozen hlt).trans hz
  refine callsD_of_wpS Tryd.func75 rfl fun c₀ cs hu => ?_
  apply wpS_seq
  apply wpS_region
  simp [wpOpsS, go_sem, recoverD, hu, Tryd.ntmps75, Exit.thenS, hta]
  apply wpS_region
  simp [wpOpsS, go_sem, hc2, hz2, bodyPostS, results, Tryd.results75]
  exact ⟨.returning, by rw [← hu], rfl, _, (Below.refl _ _).alloc (Nat.le_refl _) _, rfl⟩

theorem all_takeC {S : List Clu} {k : Nat} (hk : k < S.length) : (S.take (k + 1)).all cluB = ((S.take k).all cluB && cluB S[k]) := by
  rw [List.take_succ_eq_append_getElem hk, List.all_append]; simp
set_option maxRecDepth 100000 in
set_option maxHeartbeats 4000000 in
theorem areClues_any (A : Option Addr) (n c : Nat) (S : List Clu) (w : World) (hr : Rd w 3 A n (boxCells S)) (hn : n ≤ 4000000000) :
    Calls Tryd.prog 61 #[.slice A n c] w fun e w' => e = .returned (.bool (S.all cluB)) ∧ Below w.heap.size w w' := by
  have hll : S.length = n := by have := hr.1; rw [length_boxCells] at this; omega
  have HL := Lib.hid hll
  have hmf : ∀ (fn : Fn) (first cap : Array Value) (w : World), (Instr.makeFunc fn first cap).run Tryd.prog w = .ok (.func fn first cap) w := fun _ _ _ _ => rfl
  clear hll
  go_enter_defers Tryd.func61, Tryd.ntmps61
  go_wp2
  go_loopw [8] (fun i wr => ∃ k : Nat, k ≤ n ∧ i = .int .i64 k ∧ Hid ((S.take k).all cluB = true) ∧ Below w.heap.size w wr ∧ w.heap.size < wr.heap.size ∧ wr.cell? ⟨w.heap.size, 0, none⟩ = some (.bool false) ∧ wr.frozen? ⟨w.heap.size, 0, none⟩ = false) (fun i _ => n - (intOf i).toNat)
  case atStart => exact ⟨0, Nat.zero_le _, rfl, by simp [Hid], by (repeat (first | (with_reducible exact Below.refl _ _) | (with_reducible assumption) | (with_reducible refine Below.drew ?_) | ((with_reducible refine balloc ?_ _ ?_); · (first | (simp; done) | (simp; omega) | omega)) | ((with_reducible refine bset ?_ _ ?_); · (first | (simp; done) | (simp; omega) | omega)) | (with_reducible refine bdrewN _ ?_) | ((with_reducible refine bcall ?_ (by assumption) ?_); · (first | (simp; done) | (simp; omega) | omega)))), by simp, by simp [go_sem], World.frozen?_alloc_new _ _ _ _⟩
  case round =>
    obtain ⟨k, hk, rfl, hA, hB, hsz, hc0, hf0⟩ := hrel
    have sB := hB.size
    by_cases hlt : k < n
    · obtain ⟨b, o, rfl, hbl, hx, p1, p2, p3⟩ := (hr.later hB (Nat.le_refl _)).box hlt
      have HS := Lib.hid (all_takeC hx)
      have HNo : Hid (cluB S[k] = false → S.all cluB = false) := fun h => by
        cases e : S.all cluB
        · rfl
        · rw [List.all_eq_true.1 e _ (List.getElem_mem hx)] at h; cases h
      generalize S[k] = q at *
      obtain ⟨x, y, z⟩ := q
      simp only at p1 p2 p3
      clear hx
      have hb0 : Below wr.heap.size wr (wr.alloc (.cells #[.int .i64 x, .int .i64 y, .int .i64 z] 70)) := (Below.refl _ _).alloc (Nat.le_refl _) _
      cases h1 : cluB (x, y, z)
      · have HF := Lib.hid (HNo.out h1)
        go_wp2_with fail
        refine (requireClue_no _ _ _ _ h1).mono ?_; rintro e w1 ⟨rfl, hb1⟩
        have hb2 := hb0.trans (hb1.mono hb0.size)
        have hc1 := (hb2.cell (p := ⟨w.heap.size, 0, none⟩) hsz).trans hc0
        have hf1 := (hb2.frozen (p := ⟨w.heap.size, 0, none⟩) hsz).trans hf0
        have hB1 := hB.trans (hb2.mono sB)
        clear hb0 hb1 hb2 hc0 hf0 hB p1 p2 p3 HS HNo
        go_wp2
        refine leaves_cons (f := 75) (args := #[.pointer (some ⟨w.heap.size, 0, none⟩)]) (by simp) (by simp [go_sem]) ?_
        refine (catchC_yes ⟨w.heap.size, 0, none⟩ (.bool false) x y z [] _ hc1 hf1).mono ?_
        rintro e u' w'' ⟨rfl, rfl, w2, hb3, rfl⟩
        have hc2 : (w2.setCell ⟨w.heap.size, 0, none⟩ (.bool false)).cell? ⟨w.heap.size, 0, none⟩ = some (.bool false) := World.cell?_setCell_same _ _ _ ((hb3.cell (World.block_lt_of_cell? w1 _ hc1)).trans hc1)
        rw [HF.out]
        simp [Leaves, settle, results, Tryd.results61, go_sem, hc2]
        exact bset (p := ⟨w.heap.size, 0, none⟩) (by simp) _ (hB1.trans (hb3.mono hB1.size))
      · have hA2 := HS.out
        rw [hA.out, h1] at hA2
        have HA2 := Lib.hid hA2
        go_wp2_with fail
        refine (requireClue_yes _ _ _ _ h1).mono ?_; rintro e w1 ⟨rfl, hb1⟩
        have hb2 := hb0.trans (hb1.mono hb0.size)
        have hc1 := (hb2.cell (p := ⟨w.heap.size, 0, none⟩) hsz).trans hc0
        have hf1 := (hb2.frozen (p := ⟨w.heap.size, 0, none⟩) hsz).trans hf0
        have hB1 := hB.trans (hb2.mono sB)
        have s2 := hb2.size
        clear hb0 hb1 hb2 hc0 hf0 hB p1 p2 p3 HS HNo
        go_wp2
        go_roundw
        case rel => exact ⟨k + 1, by omega, by go_num, HA2, hB1, by omega, hc1, hf1⟩
        case measure => simp [intOf]; omega
    · have hA := hA.out
      rw [List.take_of_length_le (by rw [HL.out]; omega)] at hA
      have HA := Lib.hid hA
      have hc1 : (wr.setCell ⟨w.heap.size, 0, none⟩ (.bool true)).cell? ⟨w.heap.size, 0, none⟩ = some (.bool true) := World.cell?_setCell_same _ _ _ hc0
      have hf1 : (wr.setCell ⟨w.heap.size, 0, none⟩ (.bool true)).frozen? ⟨w.heap.size, 0, none⟩ = false := by simpa [go_sem] using hf0
      have hB1 : Below w.heap.size w (wr.setCell ⟨w.heap.size, 0, none⟩ (.bool true)) := bset (p := ⟨w.heap.size, 0, none⟩) (by simp) _ hB
      clear hA
      go_wp2
      refine leaves_cons (f := 75) (args := #[.pointer (some ⟨w.heap.size, 0, none⟩)]) (by simp) (by simp [go_sem]) ?_
      refine (catchC_none ⟨w.heap.size, 0, none⟩ (.bool true) _ hc1 hf1).mono ?_
      rintro e u' w'' ⟨rfl, rfl, w2, hb3, rfl⟩
      have hc2 : (w2.setCell ⟨w.heap.size, 0, none⟩ (.bool true)).cell? ⟨w.heap.size, 0, none⟩ = some (.bool true) := World.cell?_setCell_same _ _ _ ((hb3.cell (World.block_lt_of_cell? _ _ hc1)).trans hc1)
      rw [HA.out]
      simp [Leaves, settle, results, Tryd.results61, go_sem, hc2]
      exact bset (p := ⟨w.heap.size, 0, none⟩) (by simp) _ (hB1.trans (hb3.mono hB1.size))


set_option maxHeartbeats 1000000 in
theorem isPuzzle_any (A : Option Addr) (n c : Nat) (S : List Clu) (w : World) (hr : Rd w 3 A n (boxCells S)) (hn : n ≤ 4000000000) :
    Calls Tryd.prog 40 #[puzV A n c] w fun e w' => e = .returned (.bool (pzB S)) ∧ Below w.heap.size w w' := by
  have hll : S.length = n := by have := hr.1; rw [length_boxCells] at this; omega
  by_cases h6 : n ≤ 6
  · have hv : pzB S = S.all cluB := by simp [pzB, hll, h6]
    have HA := Lib.hid (fun wx h => areClues_any A n c S wx h hn)
    rw [hv]
    generalize S.all cluB = v at *
    clear hll hv
    go_enter Tryd.func40, Tryd.ntmps40
    go_wp2_with fail
    refine (HA.out _ (hr.later (B := w.heap.size) (by (repeat (first | (with_reducible exact Below.refl _ _) | (with_reducible assumption) | (with_reducible refine Below.drew ?_) | ((with_reducible refine balloc ?_ _ ?_); · (first | (simp; done) | (simp; omega) | omega)) | ((with_reducible refine bset ?_ _ ?_); · (first | (simp; done) | (simp; omega) | omega)) | (with_reducible refine bdrewN _ ?_) | ((with_reducible refine bcall ?_ (by assumption) ?_); · (first | (simp; done) | (simp; omega) | omega))))) (Nat.le_refl _))).mono ?_; rintro e w1 ⟨rfl, hb1⟩
    go_wp2
    go_ret
    exact ⟨rfl, by (repeat (first | (with_reducible exact Below.refl _ _) | (with_reducible assumption) | (with_reducible refine Below.drew ?_) | ((with_reducible refine balloc ?_ _ ?_); · (first | (simp; done) | (simp; omega) | omega)) | ((with_reducible refine bset ?_ _ ?_); · (first | (simp; done) | (simp; omega) | omega)) | (with_reducible refine bdrewN _ ?_) | ((with_reducible refine bcall ?_ (by assumption) ?_); · (first | (simp; done) | (simp; omega) | omega))))⟩
  · have hv : pzB S = false := by simp [pzB, hll, h6]
    rw [hv]
    clear hll hv
    go_enter Tryd.func40, Tryd.ntmps40
    go_wp2
    go_ret
    exact ⟨rfl, by (repeat (first | (with_reducible exact Below.refl _ _) | (with_reducible assumption) | (with_reducible refine Below.drew ?_) | ((with_reducible refine balloc ?_ _ ?_); · (first | (simp; done) | (simp; omega) | omega)) | ((with_reducible refine bset ?_ _ ?_); · (first | (simp; done) | (simp; omega) | omega)) | (with_reducible refine bdrewN _ ?_) | ((with_reducible refine bcall ?_ (by assumption) ?_); · (first | (simp; done) | (simp; omega) | omega))))⟩
end Go.Proofs.YtghlgmbekgfmnabDoor
