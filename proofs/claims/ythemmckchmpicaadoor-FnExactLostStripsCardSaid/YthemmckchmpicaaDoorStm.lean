/-
  Contracts: StripMoves of the program and of the model. Condition: where the program has laid its errors.
-/
import Derived.Test.YthemmckchmpicaaDoorSmv
import Derived.Deep.QuietTactic
import Derived.BigQuiet
namespace Go.Proofs.YthemmckchmpicaaDoor
open Go.RowKit
set_option linter.unusedSimpArgs false
set_option linter.unusedVariables false

def okS (long l : Int) : Bool := inB long 1 60 && inB l 1 60
theorem inB_true {n a b : Int} (h : inB n a b = true) : a ≤ n ∧ n ≤ b := by simpa [inB] using h
def smR (long l : Int) (u : Bool) : List Int := if okS long l then smL long l u else []
theorem smR_no {long l : Int} {u : Bool} (h : okS long l = false) : smR long l u = [] := by simp [smR, h]
theorem smR_yes {long l : Int} {u : Bool} (h : okS long l = true) : smR long l u = smL long l u := by simp [smR, h]
theorem okS_true {long l : Int} (h : okS long l = true) : 1 ≤ long ∧ long ≤ 60 ∧ 1 ≤ l ∧ l ≤ 60 := by
  simp only [okS, Bool.and_eq_true] at h
  have a := inB_true h.1
  have b := inB_true h.2
  exact ⟨a.1, a.2, b.1, b.2⟩
theorem length_smR (long l : Int) (u : Bool) : (smR long l u).length ≤ 30 := by
  unfold smR
  split
  · rename_i h; exact length_smL _ _ _ (okS_true h).2.1
  · simp

set_option maxHeartbeats 400000 in
theorem isLen_any (n : Int) (w : World) :
    Calls Tryd.prog 17 #[.int .i64 n] w fun e w' => e = .returned (.bool (inB n 1 60)) ∧ w = w' := by
  by_cases h1 : 1 ≤ n <;> by_cases h2 : n ≤ 60
  all_goals
    go_enter Tryd.func17, Tryd.ntmps17
    go_wp2
    go_ret
    exact ⟨by simp [inB, h1, h2], rfl⟩

set_option maxHeartbeats 400000 in
theorem laStrip_any (long l : Int) (w : World) :
    Calls Tryd.prog 15 #[.int .i64 long, .int .i64 l] w fun e w' => e = .returned (.bool (okS long l)) ∧ w = w' := by
  cases h1 : inB long 1 60
  · have hk : okS long l = false := by simp [okS, h1]
    rw [hk]
    go_enter Tryd.func15, Tryd.ntmps15
    go_wp2_with fail
    refine (l1In_any _ _ _ _).mono ?_; rintro e wx ⟨rfl, rfl⟩
    go_wp2
    go_ret
    exact ⟨rfl, rfl⟩
  · have hk : okS long l = inB l 1 60 := by simp [okS, h1]
    rw [hk]
    go_enter Tryd.func15, Tryd.ntmps15
    go_wp2_with fail
    refine (l1In_any _ _ _ _).mono ?_; rintro e wx ⟨rfl, rfl⟩
    go_wp2_with fail
    refine (l1In_any _ _ _ _).mono ?_; rintro e wx ⟨rfl, rfl⟩
    go_wp2
    go_ret
    exact ⟨rfl, rfl⟩

set_option maxHeartbeats 1000000 in
theorem laCan_any (long t l : Int) (u : Bool) (w : World) (h1 : 1 ≤ long) (h2 : long ≤ 60) (h3 : 1 ≤ l) (h4 : l ≤ 60) (h5 : 1 ≤ t) (h6 : t ≤ 60) :
    Calls Tryd.prog 19 #[.int .i64 long, .int .i64 t, .int .i64 l, .bool u] w fun e w' => e = .returned (.bool (canS long t l u)) ∧ w = w' := by
  by_cases ha : l ≤ t
  · have da : decide (l ≤ t) = true := decide_eq_true ha
    by_cases hb : l ≤ long - t
    · have db : decide (l ≤ long - t) = true := decide_eq_true hb
      cases u
      · have hc : canS long t l false = true := by simp [canS, ha, hb]
        rw [hc]
        go_enter Tryd.func19, Tryd.ntmps19
        go_wp2
        go_ret
        exact ⟨rfl, rfl⟩
      · by_cases he : t + t = long
        · have hc : canS long t l true = false := by simp [canS, he]
          have dq : (t != long - t) = false := by simp; omega
          rw [hc]
          clear he
          go_enter Tryd.func19, Tryd.ntmps19
          go_wp2
          go_ret
          exact ⟨rfl, rfl⟩
        · have hc : canS long t l true = true := by simp [canS, he, ha, hb]
          have dq : (t != long - t) = true := by simp; omega
          rw [hc]
          clear he
          go_enter Tryd.func19, Tryd.ntmps19
          go_wp2
          go_ret
          exact ⟨rfl, rfl⟩
    · have db : decide (l ≤ long - t) = false := decide_eq_false hb
      have hc : canS long t l u = false := by simp [canS, hb]
      rw [hc]
      go_enter Tryd.func19, Tryd.ntmps19
      go_wp2
      go_ret
      exact ⟨rfl, rfl⟩
  · have da : decide (l ≤ t) = false := decide_eq_false ha
    have hc : canS long t l u = false := by simp [canS, ha]
    rw [hc]
    go_enter Tryd.func19, Tryd.ntmps19
    go_wp2
    go_ret
    exact ⟨rfl, rfl⟩

set_option maxRecDepth 100000 in
set_option maxHeartbeats 4000000 in
theorem sStripMoves_any (long l : Int) (u : Bool) (w : World) :
    Calls Tryd.prog 8 #[.int .i64 long, .int .i64 l, .bool u] w fun e w' => ∃ A n c, e = .returned (.tuple #[.slice A n c, .bool (okS long l)]) ∧ w'.ownsRow w.heap.size 3 1 (.slice A n c) n (intCells (smR long l u)) ∧ Below w.heap.size w w' := by
  obtain ⟨i0, hi, hz0, hz1, hz2⟩ := info_parts intS_info
  cases hk : okS long l
  · rw [smR_no hk]
    go_enter Tryd.func8, Tryd.ntmps8
    go_wp2_with fail
    refine (laStrip_any _ _ _).mono ?_; rintro e wx ⟨rfl, rfl⟩
    go_wp2
    go_ret2
    exact ⟨none, 0, 0, rfl, World.ownsRow_nil _ _ _ _, Below.refl _ _⟩
  · rw [smR_yes hk]
    obtain ⟨h1, h2, h3, h4⟩ := okS_true hk
    go_enter Tryd.func8, Tryd.ntmps8
    go_wp2_with fail
    refine (laStrip_any _ _ _).mono ?_; rintro e wx ⟨rfl, rfl⟩
    go_wp2
    clear hk
    go_loopw [8, 9] (fun v i wr => ∃ (k n : Nat) (A : Option Addr) (c : Nat), 2 * (k : Int) ≤ long ∧ i = .int .i64 ((k : Int) + 1) ∧ v = .slice A n c ∧ wr.ownsRow w.heap.size 3 1 (.slice A n c) n (intCells (smT long l u k)) ∧ Below w.heap.size w wr) (fun _ i _ => 62 - (intOf i).toNat)
    case atStart => exact ⟨0, 0, none, 0, by omega, rfl, rfl, World.ownsRow_nil _ _ _ _, Below.refl _ _⟩
    case round =>
      obtain ⟨k, n, A, c, hk, rfl, rfl, hown, hB⟩ := hrel
      have sB := hB.size
      have hn60 : n ≤ 60 := by have h := hown.1; rw [length_intCells] at h; have := length_smT long l u k; omega
      by_cases hlt : 2 * ((k : Int) + 1) ≤ long
      · cases hc : canS long ((k : Int) + 1) l u
        · have HY := Lib.hid (smT_no hc)
          have HCN := Lib.hid hc
          have hcl := laCan_any long ((k : Int) + 1) l u wr h1 h2 h3 h4 (by omega) (by omega)
          rw [hc] at hcl
          clear hc
          have HC := Lib.hid hcl
          clear hcl
          go_wp2_with fail
          refine HC.out.mono ?_; rintro e wx ⟨rfl, rfl⟩
          go_wp2
          go_roundw
          case rel => exact ⟨k + 1, n, A, c, by omega, by go_num, rfl, by rw [HY.out]; exact hown, hB⟩
          case measure => simp [intOf]; omega
        · have HY := Lib.hid (smT_yes hc)
          have hcl := laCan_any long ((k : Int) + 1) l u wr h1 h2 h3 h4 (by omega) (by omega)
          rw [hc] at hcl
          clear hc
          have HC := Lib.hid hcl
          clear hcl
          go_wp2_with fail
          refine HC.out.mono ?_; rintro e wx ⟨rfl, rfl⟩
          have hc3 : n + 1 ≤ maxLen := by simp only [maxLen]; omega
          go_wp2_with (at_builtin; refine wpList_append_own _ rfl (.tmp 25) (.tmp 27) 25 rfl w.heap.size 3 i0 (.int .i64 0) 1 8 Tryd.underlying25 hi hz0 hz1 hz2 rfl (by decide) _ _ _ rfl (hown.alloc _) ⟨wr.heap.size, 0, none⟩ 1 1 [.int .i64 ((k : Int) + 1)] rfl rfl (new1 _ _ _) (int_oneCell [_]) hc3 (by omega) (Nat.le_trans sB (by simp)) ?_)
          intro v' w4 hown' hgrow _
          have hb4 := bgrow (hB.alloc sB (.cells #[.int .i64 ((k : Int) + 1)] 3)) (hown.alloc _) hgrow (by simp; omega)
          obtain ⟨A', c', rfl⟩ := own_slice hown'
          have HO4 := Lib.hid hown'
          have HB4 := Lib.hid hb4
          clear hown' hb4 hgrow hown hB
          go_wp2
          go_roundw
          case rel => exact ⟨k + 1, n + 1, A', c', by omega, by go_num, rfl, by rw [HY.out, intCells_append]; exact HO4.out, HB4.out⟩
          case measure => simp [intOf]; omega
      · have hkk : k = (long / 2).toNat := by omega
        have HKK := Lib.hid hkk
        clear hkk
        go_wp2
        go_ret2
        exact ⟨A, n, c, rfl, by rw [smL, ← HKK.out]; exact hown, hB⟩

set_option maxRecDepth 100000 in
set_option maxHeartbeats 4000000 in
theorem stripMovesF_any (long l : Int) (u : Bool) (w : World) (a0 : Addr) (hL : LaidE w a0) :
    Calls Tryd.prog 9 #[.int .i64 long, .int .i64 l, .bool u] w fun e w' => ∃ A n c, e = .returned (.tuple #[.slice A n c, .bool (okS long l)]) ∧ w'.ownsRow w.heap.size 3 1 (.slice A n c) n (intCells (smR long l u)) ∧ Below w.heap.size w w' := by
  cases hk : okS long l
  · rw [smR_no hk]
    cases h1 : inB long 1 60
    · go_enter Tryd.func9, Tryd.ntmps9
      go_wp2_with fail
      refine (isLen_any _ _).mono ?_; rintro e wx ⟨rfl, rfl⟩
      go_wp2
      go_ret2
      exact ⟨none, 0, 0, rfl, World.ownsRow_nil _ _ _ _, Below.refl _ _⟩
    · have h2 : inB l 1 60 = false := by simpa [okS, h1] using hk
      go_enter Tryd.func9, Tryd.ntmps9
      go_wp2_with fail
      refine (isLen_any _ _).mono ?_; rintro e wx ⟨rfl, rfl⟩
      go_wp2_with fail
      refine (isLen_any _ _).mono ?_; rintro e wx ⟨rfl, rfl⟩
      go_wp2
      go_ret2
      exact ⟨none, 0, 0, rfl, World.ownsRow_nil _ _ _ _, Below.refl _ _⟩
  · rw [smR_yes hk]
    obtain ⟨h1, h2, h3, h4⟩ := okS_true hk
    have b1 : inB long 1 60 = true := by simp [inB]; omega
    have b2 : inB l 1 60 = true := by simp [inB]; omega
    have HS := Lib.hid (stripMoves_any long l u a0 w hL h1 h2 h3 h4)
    clear hk
    go_enter Tryd.func9, Tryd.ntmps9
    go_wp2_with fail
    refine (isLen_any _ _).mono ?_; rintro e wx ⟨rfl, rfl⟩
    go_wp2_with fail
    refine (isLen_any _ _).mono ?_; rintro e wx ⟨rfl, rfl⟩
    go_wp2_with fail
    refine HS.out.mono ?_; rintro e w2 ⟨A, n, c, rfl, own2, hb2⟩
    go_wp2
    go_ret2
    exact ⟨A, n, c, rfl, own2, hb2⟩
end Go.Proofs.YthemmckchmpicaaDoor
