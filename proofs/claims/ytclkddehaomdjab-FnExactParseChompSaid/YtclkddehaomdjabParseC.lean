/-
  Contracts: texts read as chomps, of the model and of the program.
-/
import Derived.Test.YtclkddehaomdjabChSum
namespace Go.Proofs.Ytclkddehaomdjab
open Go.RowKit
set_option linter.unusedVariables false

def rowsP (s : ByteArray) (k : Nat) : List Int := (List.range k).map fun (i : Nat) => ((s.data[i]?.getD 0).toNat : Int) - 48
theorem rowsP_succ {s : ByteArray} {k : Nat} (h : k < s.size) : rowsP s (k + 1) = rowsP s k ++ [((s[k]).toNat : Int) - 48] := by
  have hd : k < s.data.size := h
  have e : s.data[k]?.getD 0 = s[k] := by rw [Array.getElem?_eq_getElem hd]; rfl
  simp [rowsP, List.range_succ, e]
def parseL (s : ByteArray) : List Int := rowsP s s.size
def parseB (s : ByteArray) : Bool := decide (s.size ≤ 6) && chB (parseL s)
def parseR (s : ByteArray) : List Int := if parseB s then parseL s else []
theorem length_parseR (s : ByteArray) : (parseR s).length ≤ 6 := by
  unfold parseR
  split
  · rename_i h
    simp only [parseB, Bool.and_eq_true, decide_eq_true_eq] at h
    simp [parseL, rowsP]
    omega
  · simp

set_option maxRecDepth 100000 in
set_option maxHeartbeats 2000000 in
theorem sParseChomp_any (s : ByteArray) (w : World) (hs : s.size ≤ maxLen) :
    Calls Try.prog 32 #[.string s] w fun e w' => ∃ A' n' c', e = .returned (.tuple #[.slice A' n' c', .bool (parseB s)]) ∧ w'.ownsRow w.heap.size 3 1 (.slice A' n' c') n' (intCells (parseR s)) ∧ Below w.heap.size w w' := by
  unfold maxLen at hs
  by_cases h6 : s.size ≤ 6
  · obtain ⟨i0, hi, hz0, hz1, hz2⟩ := info_parts int_info
    have hd6 : decide (6 < (s.size : Int)) = false := by simp; omega
    go_enter Try.func32, Try.ntmps32
    go_wp2
    go_loopw [4, 5] (fun v i wr => ∃ (k : Nat) (A' : Option Addr) (c' : Nat), k ≤ s.size ∧ i = .int .i64 k ∧ v = .slice A' k c' ∧ wr.ownsRow w.heap.size 3 1 (.slice A' k c') k (intCells (rowsP s k)) ∧ Below w.heap.size w wr) (fun _ i _ => s.size - (intOf i).toNat)
    case atStart => exact ⟨0, none, 0, Nat.zero_le _, rfl, rfl, World.ownsRow_nil _ _ _ _, Below.refl _ _⟩
    case round =>
      obtain ⟨k, A', c', hk, rfl, rfl, hown, hB⟩ := hrel
      have sB := hB.size
      by_cases hlt : k < s.size
      · have HE := Lib.hid (rowsP_succ hlt)
        have hb8 : (s[k]).toNat < 256 := (s[k]).toNat_lt
        generalize hv : (s[k]).toNat = v at *
        have hc3 : k + 1 ≤ maxLen := by simp only [maxLen]; omega
        go_wp2_with (at_builtin; refine wpList_append_own _ rfl (.tmp 15) (.tmp 21) 30 rfl w.heap.size 3 i0 (.int .i64 0) 1 8 Try.underlying30 hi hz0 hz1 hz2 rfl (by decide) _ _ _ rfl (hown.alloc _) ⟨wr.heap.size, 0, none⟩ 1 1 [.int .i64 ((v : Int) - 48)] rfl rfl (new1 _ _ _) (int_oneCell [_]) hc3 (by omega) (Nat.le_trans sB (show wr.heap.size ≤ _ by simp)) ?_)
        intro v' w2 hown' hgrow _
        have hb2 := gb_new (Nat.le_refl _) (hB.alloc (by omega) (.cells #[.int .i64 ((v : Int) - 48)] 3)) hgrow (fun g hg => (hown.lt g hg).1)
        obtain ⟨A2, c2', rfl⟩ := own_slice hown'
        clear hgrow hown hB hc3
        go_wp2
        go_roundw
        case rel => exact ⟨k + 1, A2, c2', by omega, by go_num, rfl, by rw [HE.out, intCells_append]; exact hown', hb2⟩
        case measure => simp [intOf]; omega
      · have hks : k = s.size := by omega
        have HB := Lib.hid hB
        have HO := Lib.hid hown
        have hrd := Rd.of_own hown
        cases hc : chB (rowsP s k)
        · have HP : Hid (parseB s = false ∧ parseR s = []) := by
            rw [hks] at hc
            have e : parseB s = false := by simp [parseB, parseL, hc]
            exact ⟨e, by simp [parseR, e]⟩
          clear hks hB hown
          go_wp2_with fail
          refine (cmGood_any _ _ _ _ _ hrd (by omega)).mono ?_; rintro e w2 ⟨rfl, hb2⟩
          rw [hc]
          go_wp2
          go_ret2
          exact ⟨none, 0, 0, by rw [HP.out.1]; rfl, by rw [HP.out.2]; exact World.ownsRow_nil _ _ _ _, bcall HB.out.size hb2 HB.out⟩
        · have HP : Hid (parseB s = true ∧ parseR s = rowsP s k) := by
            rw [hks] at hc ⊢
            have e : parseB s = true := by simp [parseB, parseL, hc, h6]
            exact ⟨e, by simp [parseR, e, parseL]⟩
          clear hks hB hown
          go_wp2_with fail
          refine (cmGood_any _ _ _ _ _ hrd (by omega)).mono ?_; rintro e w2 ⟨rfl, hb2⟩
          rw [hc]
          go_wp2
          go_ret2
          exact ⟨A', k, c', by rw [HP.out.1]; rfl, by rw [HP.out.2]; exact own_later HO.out hb2 (Nat.le_refl _), bcall HB.out.size hb2 HB.out⟩
  · have hd6 : decide (6 < (s.size : Int)) = true := by simp; omega
    have HP : Hid (parseB s = false ∧ parseR s = []) := by
      have e : parseB s = false := by simp [parseB, h6]
      exact ⟨e, by simp [parseR, e]⟩
    go_enter Try.func32, Try.ntmps32
    go_wp2
    go_ret2
    exact ⟨none, 0, 0, by rw [HP.out.1]; rfl, by rw [HP.out.2]; exact World.ownsRow_nil _ _ _ _, Below.refl _ _⟩

set_option maxRecDepth 100000 in
set_option maxHeartbeats 2000000 in
theorem parseChomp_any (s : ByteArray) (w : World) (hs : s.size ≤ maxLen) :
    Calls Try.prog 33 #[.string s] w fun e w' => ∃ A' n' c', e = .returned (.tuple #[.slice A' n' c', .bool (parseB s)]) ∧ w'.ownsRow w.heap.size 3 1 (.slice A' n' c') n' (intCells (parseR s)) ∧ Below w.heap.size w w' := by
  unfold maxLen at hs
  by_cases h6 : s.size ≤ 6
  · obtain ⟨i0, hi, hz0, hz1, hz2⟩ := info_parts int_info
    have hd6 : decide (6 < (s.size : Int)) = false := by simp; omega
    go_enter Try.func33, Try.ntmps33
    go_wp2
    go_loopw [4, 11] (fun v i wr => ∃ (k : Nat) (A' : Option Addr) (c' : Nat), k ≤ s.size ∧ i = .int .i64 k ∧ v = .slice A' k c' ∧ wr.ownsRow w.heap.size 3 1 (.slice A' k c') k (intCells (rowsP s k)) ∧ Below w.heap.size w wr) (fun _ i _ => s.size - (intOf i).toNat)
    case atStart => exact ⟨0, none, 0, Nat.zero_le _, rfl, rfl, World.ownsRow_nil _ _ _ _, Below.refl _ _⟩
    case round =>
      obtain ⟨k, A', c', hk, rfl, rfl, hown, hB⟩ := hrel
      have sB := hB.size
      by_cases hlt : k < s.size
      · have HE := Lib.hid (rowsP_succ hlt)
        have hb8 : (s[k]).toNat < 256 := (s[k]).toNat_lt
        generalize hv : (s[k]).toNat = v at *
        have hc3 : k + 1 ≤ maxLen := by simp only [maxLen]; omega
        go_wp2_with (at_builtin; refine wpList_append_own _ rfl (.tmp 14) (.tmp 20) 30 rfl w.heap.size 3 i0 (.int .i64 0) 1 8 Try.underlying30 hi hz0 hz1 hz2 rfl (by decide) _ _ _ rfl (hown.alloc _) ⟨wr.heap.size, 0, none⟩ 1 1 [.int .i64 ((v : Int) - 48)] rfl rfl (new1 _ _ _) (int_oneCell [_]) hc3 (by omega) (Nat.le_trans sB (show wr.heap.size ≤ _ by simp)) ?_)
        intro v' w2 hown' hgrow _
        have hb2 := gb_new (Nat.le_refl _) (hB.alloc (by omega) (.cells #[.int .i64 ((v : Int) - 48)] 3)) hgrow (fun g hg => (hown.lt g hg).1)
        obtain ⟨A2, c2', rfl⟩ := own_slice hown'
        clear hgrow hown hB hc3
        go_wp2
        go_roundw
        case rel => exact ⟨k + 1, A2, c2', by omega, by go_num, rfl, by rw [HE.out, intCells_append]; exact hown', hb2⟩
        case measure => simp [intOf]; omega
      · have hks : k = s.size := by omega
        have HB := Lib.hid hB
        have HO := Lib.hid hown
        have hrd := Rd.of_own hown
        cases hc : chB (rowsP s k)
        · have HP : Hid (parseB s = false ∧ parseR s = []) := by
            rw [hks] at hc
            have e : parseB s = false := by simp [parseB, parseL, hc]
            exact ⟨e, by simp [parseR, e]⟩
          clear hks hB hown
          go_wp2_with fail
          refine (isChomp_any _ _ _ _ _ hrd (by omega)).mono ?_; rintro e w2 ⟨rfl, hb2⟩
          rw [hc]
          go_wp2
          go_ret2
          exact ⟨none, 0, 0, by rw [HP.out.1]; rfl, by rw [HP.out.2]; exact World.ownsRow_nil _ _ _ _, bcall HB.out.size hb2 HB.out⟩
        · have HP : Hid (parseB s = true ∧ parseR s = rowsP s k) := by
            rw [hks] at hc ⊢
            have e : parseB s = true := by simp [parseB, parseL, hc, h6]
            exact ⟨e, by simp [parseR, e, parseL]⟩
          clear hks hB hown
          go_wp2_with fail
          refine (isChomp_any _ _ _ _ _ hrd (by omega)).mono ?_; rintro e w2 ⟨rfl, hb2⟩
          rw [hc]
          go_wp2
          go_ret2
          exact ⟨A', k, c', by rw [HP.out.1]; rfl, by rw [HP.out.2]; exact own_later HO.out hb2 (Nat.le_refl _), bcall HB.out.size hb2 HB.out⟩
  · have hd6 : decide (6 < (s.size : Int)) = true := by simp; omega
    have HP : Hid (parseB s = false ∧ parseR s = []) := by
      have e : parseB s = false := by simp [parseB, h6]
      exact ⟨e, by simp [parseR, e]⟩
    go_enter Try.func33, Try.ntmps33
    go_wp2
    go_ret2
    exact ⟨none, 0, 0, by rw [HP.out.1]; rfl, by rw [HP.out.2]; exact World.ownsRow_nil _ _ _ _, Below.refl _ _⟩

end Go.Proofs.Ytclkddehaomdjab
