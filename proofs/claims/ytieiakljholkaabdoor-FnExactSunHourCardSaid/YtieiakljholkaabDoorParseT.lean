/-
  Contracts: ParseTablet of the model and of the program. Conditions: a text of at most 2^20 bytes; the library's greatest length holds a number.
-/
import Derived.Test.YtieiakljholkaabDoorParseTW
import Derived.Test.YtieiakljholkaabDoorSplit
import Derived.Test.YtieiakljholkaabDoorTabG
import Derived.Test.YtieiakljholkaabDoorSplitNL
import Derived.Test.YtieiakljholkaabDoorAndS
import Derived.ProofKit
namespace Go.Proofs.YtieiakljholkaabDoor
open Go.RowKit
set_option linter.unusedVariables false

/-- the library's greatest length holds a number -/
def LaidM (w : World) (a0 : Addr) : Prop := (∃ m, w.cell? ⟨0, 0, none⟩ = some (.int .i64 m)) ∧ True ∧ 0 + 1 ≤ w.heap.size
theorem LaidM.later {w w' : World} {a0 : Addr} {B : Nat} (h : LaidM w a0) (hb : Below B w w') (hB : 0 + 1 ≤ B) (hw : 0 + 1 ≤ w'.heap.size) : LaidM w' a0 := by
  obtain ⟨⟨m, hm⟩, _, _⟩ := h
  exact ⟨⟨m, (hb.cell (p := ⟨0, 0, none⟩) (Nat.lt_of_lt_of_le (by decide) hB)).trans hm⟩, trivial, hw⟩

theorem laidM_of {W : World} {L : List (String × DataW Unit)} (h : laidMetH Tryd.prog L W) (hsh : W.ShapedOpen Tryd.prog) : ∃ a0, LaidM W a0 := by
  obtain ⟨m, hm⟩ := cell_of_shapedOpen_int (g := 0) (t := 3) (zero := #[.int .i64 0]) hsh (of_decide_eq_true (by kernel_rfl)) (by kernel_rfl) rfl (by kernel_rfl) (by kernel_rfl) Tryd.underlying3
  refine ⟨⟨0, 0, none⟩, ⟨m, hm⟩, trivial, ?_⟩
  rcases Nat.lt_or_ge 0 W.heap.size with q | q
  · exact q
  · simp [World.cell?, Array.getElem?_eq_none q] at hm

set_option maxRecDepth 100000 in
set_option maxHeartbeats 2000000 in
theorem sParseTablet_any (s : ByteArray) (w : World) (hs : s.size ≤ 1048576) :
    Calls Tryd.prog 30 #[.string s] w fun e w' => ∃ A' n' c', e = .returned (.tuple #[.slice A' n' c', .bool (ptB s)]) ∧ w'.ownsRow w.heap.size 9 1 (.slice A' n' c') n' (strCells (ptR s)) ∧ Below w.heap.size w w' := by
  have HZ1 := Lib.hid (splitL_len s hs)
  by_cases h110 : s.size ≤ 110
  · have h110' : ¬ (110 : Int) < s.size := by omega
    cases hk : ptB s
    all_goals
      have HK : Hid (tabB (splitL s 47) = ptB s) := rfl
      first | rw [ptR_no hk] | rw [ptR_yes hk]
      rw [hk] at HK
      clear hk
      go_enter Tryd.func30, Tryd.ntmps30
      go_wp2_with fail
      refine (l1Split_any s 47 _ hs).mono ?_; rintro e w1 ⟨A, n, c, rfl, hown, hb1⟩
      have hrd := Rd.of_own hown
      have HO := Lib.hid hown
      clear hown
      go_wp2_with fail
      refine (mlGood_any A n c _ _ hrd HZ1.out).mono ?_; rintro e wx ⟨rfl, rfl⟩
      rw [HK.out]
      go_wp2
      go_ret2
      first | exact ⟨none, 0, 0, rfl, World.ownsRow_nil _ _ _ _, hb1⟩ | exact ⟨A, n, c, rfl, HO.out, hb1⟩
  · have h110' : (110 : Int) < s.size := by omega
    have hk : ptB s = false := by
      cases h : ptB s
      · rfl
      · exact absurd (Nat.le_trans (tab_size s h) (by omega)) h110
    rw [ptR_no hk, hk]
    clear hk
    go_enter Tryd.func30, Tryd.ntmps30
    go_wp2
    go_ret2
    exact ⟨none, 0, 0, rfl, World.ownsRow_nil _ _ _ _, Below.refl _ _⟩

theorem own_elev (s : ByteArray) (w : World) : (w.alloc (.cells (Lib.cellsOf (elevL s) (min 11 (s.size + 1))) 9)).ownsRow w.heap.size 9 1 (.slice (some ⟨w.heap.size, 0, none⟩) (elevL s).length (min 11 (s.size + 1))) (elevL s).length (strCells (elevL s)) := by
  have hl : (elevL s).length ≤ min 11 (s.size + 1) := by
    have := Lib.splitB_length_le (ByteArray.mk #[47]) 0 (min 11 (s.size + 1) - 1) s
    unfold elevL
    omega
  have hz := Lib.cellsOf_size hl
  refine ⟨by simp [length_strCells], .inr ⟨w.heap.size, min 11 (s.size + 1), Lib.cellsOf (elevL s) (min 11 (s.size + 1)), rfl, Nat.le_refl _, by simp only [World.alloc, Array.getElem?_push_size], hl, by simp only [maxLen]; omega, by rw [hz]; simp, ?_⟩⟩
  unfold Lib.cellsOf strCells
  simp

set_option maxRecDepth 100000 in
set_option maxHeartbeats 2000000 in
theorem parseTablet_any (s : ByteArray) (w : World) (hs : s.size ≤ 1048576) (a0 : Addr) (hL : LaidM w a0) :
    Calls Tryd.prog 31 #[.string s] w fun e w' => ∃ A' n' c', e = .returned (.tuple #[.slice A' n' c', .bool (ptB s)]) ∧ w'.ownsRow w.heap.size 9 1 (.slice A' n' c') n' (strCells (ptR s)) ∧ Below w.heap.size w w' := by
  obtain ⟨⟨m, hm⟩, _, _⟩ := hL
  have HSP : Hid (∀ wx : World, (∃ m, wx.cell? ⟨0, 0, none⟩ = some (.int .i64 m)) → Calls Tryd.prog 60 #[.string s, .string (ByteArray.mk #[47]), .int .i64 11] wx fun e w' =>
      ∃ A n c, e = .returned (.slice A n c) ∧ w'.ownsRow wx.heap.size 9 1 (.slice A n c) n (strCells (elevL s)) ∧ Below wx.heap.size wx w') := by
    intro wx ⟨m, hm⟩
    refine (Tryd.strings_SplitN s (ByteArray.mk #[47]) 11 m wx (by omega) hm (by decide) (by decide) (by decide)).mono ?_
    rintro e w' ⟨rfl, rfl⟩
    exact ⟨_, _, _, rfl, own_elev s wx, (Below.refl _ _).alloc (Nat.le_refl _) _⟩
  have HZ2 := Lib.hid (elevL_len s hs)
  obtain ⟨hn1, hn2⟩ := elev_same s
  have HN1 := Lib.hid hn1
  have HN2 := Lib.hid hn2
  have HM := Lib.hid (show ∃ m, w.cell? ⟨0, 0, none⟩ = some (.int .i64 m) from ⟨m, hm⟩)
  clear hn1 hn2 hm
  cases hk : ptB s
  · have HK : Hid (tabB (elevL s) = false) := HN1.out.trans hk
    rw [ptR_no hk]
    clear hk
    go_enter Tryd.func31, Tryd.ntmps31
    go_wp2_with fail
    refine (HSP.out _ HM.out).mono ?_; rintro e w1 ⟨A, n, c, rfl, hown, hb1⟩
    have hrd := Rd.of_own hown
    clear hown
    go_wp2_with fail
    refine (isTablet_any A n c _ _ hrd HZ2.out).mono ?_; rintro e w2 ⟨rfl, hb2⟩
    rw [HK.out]
    go_wp2
    go_ret2
    exact ⟨none, 0, 0, rfl, World.ownsRow_nil _ _ _ _, hb1.trans (hb2.mono hb1.size)⟩
  · have HK : Hid (tabB (elevL s) = true) := HN1.out.trans hk
    rw [ptR_yes hk, ← HN2.out hk]
    clear hk
    go_enter Tryd.func31, Tryd.ntmps31
    go_wp2_with fail
    refine (HSP.out _ HM.out).mono ?_; rintro e w1 ⟨A, n, c, rfl, hown, hb1⟩
    have hrd := Rd.of_own hown
    have HO := Lib.hid hown
    clear hown
    go_wp2_with fail
    refine (isTablet_any A n c _ _ hrd HZ2.out).mono ?_; rintro e w2 ⟨rfl, hb2⟩
    rw [HK.out]
    have HO2 := Lib.hid (own_later HO.out hb2 (Nat.le_refl _))
    go_wp2
    go_ret2
    exact ⟨A, n, c, rfl, HO2.out, hb1.trans (hb2.mono hb1.size)⟩

end Go.Proofs.YtieiakljholkaabDoor
