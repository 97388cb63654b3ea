/-
  Contract: LongestNest of the program. Conditions: a list of at most 2^20 boxes.
-/
import Derived.Test.YthbbddgjphdgjabNestI
import Derived.Test.YthbbddgjphdgjabBoxK
namespace Go.Proofs.Ythbbddgjphdgjab
open Go.RowKit
set_option linter.unusedVariables false
set_option linter.unusedSimpArgs false

theorem goodL_take {L : List Bx} {k : Nat} (hx : k < L.length) (h : goodL (L.take k) = true) (hb : boxB (L[k]).1 (L[k]).2.1 (L[k]).2.2 = true) : goodL (L.take (k + 1)) = true := by
  unfold goodL at *
  rw [List.take_succ_eq_append_getElem hx, List.all_append, h]
  simp [hb]
theorem goodL_bad {L : List Bx} {k : Nat} (hx : k < L.length) (hb : boxB (L[k]).1 (L[k]).2.1 (L[k]).2.2 = false) : goodL L = false := by
  cases h : goodL L
  · rfl
  · rw [goodL_at h hx] at hb; cases hb

set_option maxRecDepth 100000 in
set_option maxHeartbeats 4000000 in
theorem longestNest_any (A : Option Addr) (n c : Nat) (L : List Bx) (w : World) (hr : Rd w 3 A n (boxCells L)) (hn : n ≤ 1048576) :
    Calls Try.prog 14 #[.slice A n c] w fun e w' => ∃ A' n' c', e = .returned (.tuple #[.slice A' n' c', .bool (lnB L)]) ∧ w'.ownsRow w.heap.size 3 1 (.slice A' n' c') n' (intCells (lnR L)) ∧ Below w.heap.size w w' := by
  have hl : L.length = n := by have := hr.1; rw [length_boxCells] at this; omega
  by_cases h10 : n ≤ 10
  · have h10' : ¬ (10 : Int) < n := by omega
    have HL := Lib.hid hl
    have HR := Lib.hid hr
    have HB1 : Hid (goodL L = true → lnB L = true) := fun h => by simp [lnB, h, hl, h10]
    have HB2 : Hid (goodL L = false → lnB L = false) := fun h => by simp [lnB, h]
    clear hl hr
    go_enter Try.func14, Try.ntmps14
    go_wp2
    go_loopw [11] (fun i wr => ∃ k : Nat, k ≤ n ∧ i = .int .i64 k ∧ Hid (goodL (L.take k) = true) ∧ Below w.heap.size w wr) (fun i _ => n - (intOf i).toNat)
    case atStart => exact ⟨0, Nat.zero_le _, rfl, rfl, Below.refl _ _⟩
    case round =>
      obtain ⟨k, hk, rfl, hT, hB⟩ := hrel
      have sB := hB.size
      by_cases hlt : k < n
      · obtain ⟨b, o, rfl, hbl, hx, p0, p1, p2⟩ := (HR.out.later hB (Nat.le_refl _)).box hlt
        have HGT := Lib.hid (fun h => goodL_take hx hT.out h)
        have HGB := Lib.hid (fun h => goodL_bad hx h)
        generalize L[k] = q at *
        obtain ⟨qa, qb, qc⟩ := q
        simp only at p0 p1 p2
        have hwr : b < wr.heap.size := hbl
        go_wp2_with fail
        refine (isBox_any _ _ _ _).mono ?_; rintro e w2 ⟨rfl, hb2⟩
        have s2 := hb2.size
        simp at s2
        have B2 : Below wr.heap.size wr w2 := bcall (by simp) hb2 ((Below.refl wr.heap.size wr).alloc (Nat.le_refl _) _)
        have HBB := Lib.hid (hB.trans (B2.mono sB))
        clear hb2 B2 p0 p1 p2 hB
        cases hq : boxB qa qb qc
        · have HLB := Lib.hid (HB2.out (HGB.out hq))
          have HRN := Lib.hid (lnR_no HLB.out)
          clear hq
          go_wp2
          go_ret2
          exact ⟨none, 0, 0, by rw [HLB.out]; rfl, by rw [HRN.out]; exact World.ownsRow_nil _ _ _ _, HBB.out⟩
        · have HG2 := Lib.hid (HGT.out hq)
          clear hq
          go_wp2
          go_roundw
          case rel => exact ⟨k + 1, by omega, by go_num, HG2.out, HBB.out⟩
          case measure => simp [intOf]; omega
      · obtain rfl : k = n := by omega
        have hgood : goodL L = true := by have h := hT.out; rw [List.take_of_length_le (by rw [HL.out]; exact Nat.le_refl _)] at h; exact h
        have HLB := Lib.hid (HB1.out hgood)
        have HRY := Lib.hid (lnR_yes HLB.out)
        have HN := Lib.hid (fun wx hrx => nestAround_any A k c L hgood h10 61 0 0 0 wx (by omega) (by omega) (by omega) (by omega) hrx)
        have HRW := Lib.hid (HR.out.later hB (Nat.le_refl _))
        have HB := Lib.hid hB
        clear hgood hB
        go_wp2_with fail
        refine (HN.out _ HRW.out).mono ?_; rintro e w2 ⟨A', n', c', rfl, own2, hb2⟩
        have HO := Lib.hid own2
        have HBB := Lib.hid (HB.out.trans (hb2.mono sB))
        clear own2 hb2
        go_wp2
        go_ret2
        exact ⟨A', n', c', by rw [HLB.out]; rfl, by rw [HRY.out]; exact own_base HO.out sB, HBB.out⟩
  · have h10' : (10 : Int) < n := by omega
    have HLB : Hid (lnB L = false) := by simp only [Hid, lnB, hl]; rw [decide_eq_false h10]; rfl
    have HRN := Lib.hid (lnR_no HLB.out)
    go_enter Try.func14, Try.ntmps14
    go_wp2
    go_ret2
    exact ⟨none, 0, 0, by rw [HLB.out]; rfl, by rw [HRN.out]; exact World.ownsRow_nil _ _ _ _, Below.refl _ _⟩

end Go.Proofs.Ythbbddgjphdgjab
