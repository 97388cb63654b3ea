/-
  Contracts: ChompOfRank of the model and of the program.
-/
import Derived.Test.YtclkddehaomdjabListS
import Derived.Test.YtclkddehaomdjabListI
import Derived.Test.YtclkddehaomdjabListM
namespace Go.Proofs.Ytclkddehaomdjab
open Go.RowKit
set_option linter.unusedVariables false

theorem all_923 : (chs 6 6 []).length = 923 := by rw [length_chs, cntC_6]
def rankB (z : Int) : Bool := decide (0 ≤ z ∧ z ≤ 922)
def rankR (z : Int) : List Int := if rankB z then (chs 6 6 []).getD z.toNat [] else []
theorem rank_ok {i : Nat} (h : i ≤ 922) : ChOK ((chs 6 6 []).getD i []) := by
  have hl : i < (chs 6 6 []).length := by rw [all_923]; omega
  have e : (chs 6 6 []).getD i [] = (chs 6 6 [])[i] := by simp [List.getD, List.getElem?_eq_getElem hl]
  rw [e]
  exact ((mem_all (H := 6) (W := 6) (by omega) (by omega)).1 (List.getElem_mem hl)).1
theorem length_rankR (z : Int) : (rankR z).length ≤ 6 := by
  unfold rankR
  split
  · rename_i h
    simp only [rankB, decide_eq_true_eq] at h
    exact (rank_ok (i := z.toNat) (by omega)).2.1
  · simp
theorem rankR_yes {i : Nat} (h : i ≤ 922) : rankR (i : Int) = (chs 6 6 []).getD i [] := by
  unfold rankR
  rw [if_pos (by simp [rankB]; omega)]
  simp
theorem rankR_no {z : Int} (h : rankB z = false) : rankR z = [] := by simp [rankR, h]
theorem chCells_at (L : List (List Int)) (i j : Nat) (hi : i < L.length) (hj : j < 6) : (chCells L)[i * 6 + j]? = some (.int .i64 ((L.getD i []).getD j 0)) := by
  induction L generalizing i with
  | nil => simp at hi
  | cons l r ih =>
    have e : chCells (l :: r) = cellsF (fun j => l.getD j 0) ++ chCells r := by simp [chCells]
    rw [e]
    cases i with
    | zero =>
      rw [List.getElem?_append_left (by simp; omega), Nat.zero_mul, Nat.zero_add]
      exact cellsF_at _ hj
    | succ i =>
      rw [List.getElem?_append_right (by simp; omega)]
      have h := ih i (by simpa using hi)
      have e2 : (i + 1) * 6 + j - (cellsF fun j => l.getD j 0).length = i * 6 + j := by simp; omega
      rw [e2, h]
      simp

set_option maxHeartbeats 1000000 in
theorem sChompOfRank_any (z : Int) (w : World) :
    Calls Try.prog 24 #[.int .i64 z] w fun e w' => ∃ A' n' c', e = .returned (.tuple #[.slice A' n' c', .bool (rankB z)]) ∧ w'.ownsRow w.heap.size 3 1 (.slice A' n' c') n' (intCells (rankR z)) ∧ Below w.heap.size w w' := by
  have HA := Lib.hid (fun wx => cmAll_any 6 6 wx (by omega) (by omega))
  cases h : rankB z
  · rw [rankR_no h]
    have HB : Hid (inB z 0 922 = false) := h
    go_enter Try.func24, Try.ntmps24
    go_wp2_with fail
    refine (HA.out _).mono ?_; rintro e w1 ⟨A', m', c', rfl, hL, hss, hb1⟩
    obtain rfl : m' = 923 := by rw [← hL, all_923]
    have HB1 := Lib.hid hb1
    clear hL hss hb1
    go_wp2_with fail
    refine (l1In_any _ _ _ _).mono ?_; rintro e wx ⟨rfl, rfl⟩
    rw [HB.out]
    go_wp2
    go_ret2
    exact ⟨none, 0, 0, rfl, World.ownsRow_nil _ _ _ _, HB1.out⟩
  · have HB : Hid (inB z 0 922 = true) := h
    simp only [rankB, decide_eq_true_eq] at h
    obtain ⟨i, rfl⟩ : ∃ i : Nat, z = i := ⟨z.toNat, by omega⟩
    have i922 : i ≤ 922 := by omega
    have HR := Lib.hid (rankR_yes i922)
    clear h
    go_enter Try.func24, Try.ntmps24
    go_wp2_with fail
    refine (HA.out _).mono ?_; rintro e w1 ⟨A', m', c', rfl, hL, hss, hb1⟩
    obtain rfl : m' = 923 := by rw [← hL, all_923]
    obtain ⟨AC, CC, hac⟩ := hss
    obtain ⟨g, rfl, hg1, hg2⟩ := own_at hac.top (by omega)
    have hc := hac.top.cellAt i (by omega)
    rw [ssCells_at (by omega)] at hc
    have hrow := hac.row i (by omega)
    have HROW := Lib.hid hrow
    have HB1 := Lib.hid hb1
    have hlr : lsR (chs 6 6 []) i = rankR (i : Int) := by rw [HR.out]; rfl
    have HLR := Lib.hid hlr
    generalize hq : lsR (chs 6 6 []) i = q at *
    clear hL hac hb1 hrow hq hlr
    go_wp2_with fail
    refine (l1In_any _ _ _ _).mono ?_; rintro e wx ⟨rfl, rfl⟩
    rw [HB.out]
    go_wp2
    go_ret2
    exact ⟨AC i, q.length, CC i, rfl, by rw [← HLR.out]; exact HROW.out, HB1.out⟩

set_option maxHeartbeats 1000000 in
theorem chompOfRank_any (z : Int) (w : World) :
    Calls Try.prog 25 #[.int .i64 z] w fun e w' => ∃ A' n' c', e = .returned (.tuple #[.slice A' n' c', .bool (rankB z)]) ∧ w'.ownsRow w.heap.size 3 1 (.slice A' n' c') n' (intCells (rankR z)) ∧ Below w.heap.size w w' := by
  have HA := Lib.hid (fun wx => chompsWithin_any 6 6 wx (by omega) (by omega))
  by_cases h0 : 0 ≤ z
  · have hd0 : decide (z < 0) = false := decide_eq_false (by omega)
    obtain ⟨i, rfl⟩ : ∃ i : Nat, z = i := ⟨z.toNat, by omega⟩
    by_cases h1 : i ≤ 922
    · have HB : Hid (rankB (i : Int) = true) := by simp [Hid, rankB]; omega
      have hd1 : decide ((923 : Int) ≤ (i : Int)) = false := decide_eq_false (by omega)
      have HR := Lib.hid (rankR_yes h1)
      have HOK := Lib.hid (rank_ok h1)
      go_enter Try.func25, Try.ntmps25
      go_wp2_with fail
      refine (HA.out _).mono ?_; rintro e w1 ⟨A', m', c', rfl, hL, ho, hb1⟩
      obtain rfl : m' = 923 := by rw [← hL, all_923]
      obtain ⟨g, rfl, hg1, hg2⟩ := own_at ho (by omega)
      have hlen : i < (chs 6 6 []).length := by rw [all_923]; omega
      have a0 := (ho.cellAt (i * 6) (by omega)).trans (chCells_at _ i 0 hlen (by omega))
      have a1 := (ho.cellAt (i * 6 + 1) (by omega)).trans (chCells_at _ i 1 hlen (by omega))
      have a2 := (ho.cellAt (i * 6 + 2) (by omega)).trans (chCells_at _ i 2 hlen (by omega))
      have a3 := (ho.cellAt (i * 6 + 3) (by omega)).trans (chCells_at _ i 3 hlen (by omega))
      have a4 := (ho.cellAt (i * 6 + 4) (by omega)).trans (chCells_at _ i 4 hlen (by omega))
      have a5 := (ho.cellAt (i * 6 + 5) (by omega)).trans (chCells_at _ i 5 hlen (by omega))
      generalize hq : (chs 6 6 []).getD i [] = q at *
      obtain ⟨f, hf⟩ : ∃ f : Nat → Int, f = fun j => q.getD j 0 := ⟨_, rfl⟩
      have HF : Hid (rowsK f 6 = q) := by simp only [Hid]; rw [hf]; exact HOK.out.rows HOK.out.2.1
      rw [show q.getD 0 0 = f 0 by rw [hf]] at a0
      rw [show q.getD 1 0 = f 1 by rw [hf]] at a1
      rw [show q.getD 2 0 = f 2 by rw [hf]] at a2
      rw [show q.getD 3 0 = f 3 by rw [hf]] at a3
      rw [show q.getD 4 0 = f 4 by rw [hf]] at a4
      rw [show q.getD 5 0 = f 5 by rw [hf]] at a5
      have HB1 := Lib.hid hb1
      clear hL ho hb1 hq hf hlen
      go_wp2_with fail
      refine (rowsOf_any f _).mono ?_; rintro e w2 ⟨A2, n2, c2, rfl, ho2, hb2⟩
      have HO2 := Lib.hid (own_base ho2 HB1.out.size)
      have HB2 := Lib.hid (HB1.out.trans (hb2.mono HB1.out.size))
      clear ho2 hb2
      go_wp2
      go_ret2
      exact ⟨A2, n2, c2, by rw [HB.out]; rfl, by rw [HR.out, ← HF.out]; exact HO2.out, HB2.out⟩
    · have HB : Hid (rankB (i : Int) = false) := by simp [Hid, rankB]; omega
      have hd1 : decide ((923 : Int) ≤ (i : Int)) = true := decide_eq_true (by omega)
      rw [rankR_no HB.out, HB.out]
      go_enter Try.func25, Try.ntmps25
      go_wp2_with fail
      refine (HA.out _).mono ?_; rintro e w1 ⟨A', m', c', rfl, hL, ho, hb1⟩
      obtain rfl : m' = 923 := by rw [← hL, all_923]
      have HB1 := Lib.hid hb1
      clear hL ho hb1
      go_wp2
      go_ret2
      exact ⟨none, 0, 0, rfl, World.ownsRow_nil _ _ _ _, HB1.out⟩
  · have hd0 : decide (z < 0) = true := decide_eq_true (by omega)
    have HB : Hid (rankB z = false) := by simp [Hid, rankB]; omega
    rw [rankR_no HB.out, HB.out]
    go_enter Try.func25, Try.ntmps25
    go_wp2_with fail
    refine (HA.out _).mono ?_; rintro e w1 ⟨A', m', c', rfl, hL, ho, hb1⟩
    have HB1 := Lib.hid hb1
    clear hL ho hb1
    go_wp2
    go_ret2
    exact ⟨none, 0, 0, rfl, World.ownsRow_nil _ _ _ _, HB1.out⟩

end Go.Proofs.Ytclkddehaomdjab
