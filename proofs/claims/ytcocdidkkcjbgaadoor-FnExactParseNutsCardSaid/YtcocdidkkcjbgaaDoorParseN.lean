/-
  Contracts: ParseNuts of the model and of the program. Conditions: a text of at most 2^20 bytes; the library's greatest length holds a number.
-/
import Derived.Test.YtcocdidkkcjbgaaDoorParseNW
import Derived.Test.YtcocdidkkcjbgaaDoorSplit
import Derived.Test.YtcocdidkkcjbgaaDoorSplitNL
import Derived.Test.YtcocdidkkcjbgaaDoorAndS
import Derived.ProofKit
namespace Go.Proofs.YtcocdidkkcjbgaaDoor
open Go.RowKit
set_option linter.unusedVariables false

/-- the library's greatest length holds a number -/
def LaidM (w : World) (a0 : Addr) : Prop := (∃ m, w.cell? ⟨2, 0, none⟩ = some (.int .i64 m)) ∧ True ∧ 2 + 1 ≤ w.heap.size
theorem LaidM.later {w w' : World} {a0 : Addr} {B : Nat} (h : LaidM w a0) (hb : Below B w w') (hB : 2 + 1 ≤ B) (hw : 2 + 1 ≤ w'.heap.size) : LaidM w' a0 := by
  obtain ⟨⟨m, hm⟩, _, _⟩ := h
  exact ⟨⟨m, (hb.cell (p := ⟨2, 0, none⟩) (Nat.lt_of_lt_of_le (by decide) hB)).trans hm⟩, trivial, hw⟩

theorem laidM_of {W : World} {L : List (String × DataW Unit)} (h : laidMetH Tryd.prog L W) (hsh : W.ShapedOpen Tryd.prog) : ∃ a0, LaidM W a0 := by
  obtain ⟨m, hm⟩ := cell_of_shapedOpen_int (g := 2) (t := 3) (zero := #[.int .i64 0]) hsh (of_decide_eq_true (by kernel_rfl)) (by kernel_rfl) rfl (by kernel_rfl) (by kernel_rfl) Tryd.underlying3
  refine ⟨⟨0, 0, none⟩, ⟨m, hm⟩, trivial, ?_⟩
  rcases Nat.lt_or_ge 2 W.heap.size with q | q
  · exact q
  · simp [World.cell?, Array.getElem?_eq_none q] at hm

set_option maxRecDepth 100000 in
set_option maxHeartbeats 2000000 in
theorem ntParse_any (s : ByteArray) (w : World) (hs : s.size ≤ 1048576) :
    Calls Tryd.prog 26 #[.string s] w fun e w' => ∃ A' n' c', e = .returned (.tuple #[.slice A' n' c', .bool (pnB s)]) ∧ w'.ownsRow w.heap.size 9 1 (.slice A' n' c') n' (strCells (pnR s)) ∧ Below w.heap.size w w' := by
  by_cases h71 : s.size ≤ 71
  · have h71' : ¬ (71 : Int) < s.size := by omega
    cases hk : pnB s
    all_goals
      have HK : Hid (nutsB (splitL s 47) = pnB s) := rfl
      first | rw [pnR_no hk] | rw [pnR_yes hk]
      rw [hk] at HK
      clear hk
      go_enter Tryd.func26, Tryd.ntmps26
      go_wp2_with fail
      refine (l1Split_any s 47 _ hs).mono ?_; rintro e w1 ⟨A, n, c, rfl, hown, hb1⟩
      have hrd := Rd.of_own hown
      have HO := Lib.hid hown
      clear hown
      go_wp2_with fail
      refine (ntGood_any A n c _ _ hrd).mono ?_; rintro e wx ⟨rfl, rfl⟩
      rw [HK.out]
      go_wp2
      go_ret2
      first | exact ⟨none, 0, 0, rfl, World.ownsRow_nil _ _ _ _, hb1⟩ | exact ⟨A, n, c, rfl, HO.out, hb1⟩
  · have h71' : (71 : Int) < s.size := by omega
    have hk : pnB s = false := by
      cases h : pnB s
      · rfl
      · exact absurd (nuts_size s h) h71
    rw [pnR_no hk, hk]
    clear hk
    go_enter Tryd.func26, Tryd.ntmps26
    go_wp2
    go_ret2
    exact ⟨none, 0, 0, rfl, World.ownsRow_nil _ _ _ _, Below.refl _ _⟩

set_option maxRecDepth 100000 in
set_option maxHeartbeats 2000000 in
theorem sParseNuts_any (s : ByteArray) (w : World) (hs : s.size ≤ 1048576) :
    Calls Tryd.prog 9 #[.string s] w fun e w' => ∃ A' n' c', e = .returned (.tuple #[.slice A' n' c', .bool (pnB s)]) ∧ w'.ownsRow w.heap.size 9 1 (.slice A' n' c') n' (strCells (pnR s)) ∧ Below w.heap.size w w' := by
  go_enter Tryd.func9, Tryd.ntmps9
  go_wp2_with fail
  refine (ntParse_any s _ hs).mono ?_; rintro e w1 ⟨A, n, c, rfl, hown, hb1⟩
  go_wp2
  go_ret2
  exact ⟨A, n, c, rfl, hown, hb1⟩

theorem own_nine (s : ByteArray) (w : World) : (w.alloc (.cells (Lib.cellsOf (nineL s) (min 9 (s.size + 1))) 9)).ownsRow w.heap.size 9 1 (.slice (some ⟨w.heap.size, 0, none⟩) (nineL s).length (min 9 (s.size + 1))) (nineL s).length (strCells (nineL s)) := by
  have hl : (nineL s).length ≤ min 9 (s.size + 1) := by
    have := Lib.splitB_length_le (ByteArray.mk #[47]) 0 (min 9 (s.size + 1) - 1) s
    unfold nineL
    omega
  have hz := Lib.cellsOf_size hl
  refine ⟨by simp [length_strCells], .inr ⟨w.heap.size, min 9 (s.size + 1), Lib.cellsOf (nineL s) (min 9 (s.size + 1)), rfl, Nat.le_refl _, by simp only [World.alloc, Array.getElem?_push_size], hl, by simp only [maxLen]; omega, by rw [hz]; simp, ?_⟩⟩
  unfold Lib.cellsOf strCells
  simp

set_option maxRecDepth 100000 in
set_option maxHeartbeats 2000000 in
theorem parseNuts_any (s : ByteArray) (w : World) (hs : s.size ≤ 1048576) (a0 : Addr) (hL : LaidM w a0) :
    Calls Tryd.prog 10 #[.string s] w fun e w' => ∃ A' n' c', e = .returned (.tuple #[.slice A' n' c', .bool (pnB s)]) ∧ w'.ownsRow w.heap.size 9 1 (.slice A' n' c') n' (strCells (pnR s)) ∧ Below w.heap.size w w' := by
  obtain ⟨⟨m, hm⟩, _, _⟩ := hL
  have HSP : Hid (∀ wx : World, (∃ m, wx.cell? ⟨2, 0, none⟩ = some (.int .i64 m)) → Calls Tryd.prog 27 #[.string s, .string (ByteArray.mk #[47]), .int .i64 9] wx fun e w' =>
      ∃ A n c, e = .returned (.slice A n c) ∧ w'.ownsRow wx.heap.size 9 1 (.slice A n c) n (strCells (nineL s)) ∧ Below wx.heap.size wx w') := by
    intro wx ⟨m, hm⟩
    refine (Tryd.strings_SplitN s (ByteArray.mk #[47]) 9 m wx (by omega) hm (by decide) (by decide) (by decide)).mono ?_
    rintro e w' ⟨rfl, rfl⟩
    exact ⟨_, _, _, rfl, own_nine s wx, (Below.refl _ _).alloc (Nat.le_refl _) _⟩
  obtain ⟨hn1, hn2⟩ := nine_same s
  have HN1 := Lib.hid hn1
  have HN2 := Lib.hid hn2
  have HM := Lib.hid (show ∃ m, w.cell? ⟨2, 0, none⟩ = some (.int .i64 m) from ⟨m, hm⟩)
  clear hn1 hn2 hm
  cases hk : pnB s
  · have HK : Hid (nutsB (nineL s) = false) := HN1.out.trans hk
    rw [pnR_no hk]
    clear hk
    go_enter Tryd.func10, Tryd.ntmps10
    go_wp2_with fail
    refine (HSP.out _ HM.out).mono ?_; rintro e w1 ⟨A, n, c, rfl, hown, hb1⟩
    have hrd := Rd.of_own hown
    clear hown
    go_wp2_with fail
    refine (areNuts_any A n c _ _ hrd).mono ?_; rintro e wx ⟨rfl, rfl⟩
    rw [HK.out]
    go_wp2
    go_ret2
    exact ⟨none, 0, 0, rfl, World.ownsRow_nil _ _ _ _, hb1⟩
  · have HK : Hid (nutsB (nineL s) = true) := HN1.out.trans hk
    rw [pnR_yes hk, ← HN2.out hk]
    clear hk
    go_enter Tryd.func10, Tryd.ntmps10
    go_wp2_with fail
    refine (HSP.out _ HM.out).mono ?_; rintro e w1 ⟨A, n, c, rfl, hown, hb1⟩
    have hrd := Rd.of_own hown
    have HO := Lib.hid hown
    clear hown
    go_wp2_with fail
    refine (areNuts_any A n c _ _ hrd).mono ?_; rintro e wx ⟨rfl, rfl⟩
    rw [HK.out]
    go_wp2
    go_ret2
    exact ⟨A, n, c, rfl, HO.out, hb1⟩

end Go.Proofs.YtcocdidkkcjbgaaDoor
