/-
  Contract: LongestNest of the model. Conditions: a list of at most 2^20 boxes.
-/
import Derived.Test.YthbbddgjphdgjabNestS
import Derived.Test.YthbbddgjphdgjabNestL
namespace Go.Proofs.Ythbbddgjphdgjab
open Go.RowKit
set_option linter.unusedVariables false
set_option linter.unusedSimpArgs false

set_option maxRecDepth 100000 in
set_option maxHeartbeats 4000000 in
theorem sLongestNest_any (A : Option Addr) (n c : Nat) (L : List Bx) (w : World) (hr : Rd w 3 A n (boxCells L)) (hn : n ≤ 1048576) :
    Calls Try.prog 12 #[.slice A n c] w fun e w' => ∃ A' n' c', e = .returned (.tuple #[.slice A' n' c', .bool (lnB L)]) ∧ w'.ownsRow w.heap.size 3 1 (.slice A' n' c') n' (intCells (lnR L)) ∧ Below w.heap.size w w' := by
  have hl : L.length = n := by have := hr.1; rw [length_boxCells] at this; omega
  by_cases h10 : n ≤ 10
  · have h10' : ¬ (10 : Int) < n := by omega
    have HL := Lib.hid hl
    have HR := Lib.hid hr
    have HB1 : Hid (goodL L = true → lnB L = true) := fun h => by simp [lnB, h, hl, h10]
    have HB2 : Hid (goodL L = false → lnB L = false) := fun h => by simp [lnB, h]
    clear hl hr
    go_enter Try.func12, Try.ntmps12
    go_wp2
    go_loopw [12] (fun i wr => ∃ k : Nat, k ≤ n ∧ i = .int .i64 k ∧ Hid (goodL (L.take k) = true) ∧ Below w.heap.size w wr) (fun i _ => n - (intOf i).toNat)
    case atStart => exact ⟨0, Nat.zero_le _, rfl, rfl, Below.refl _ _⟩
    case round =>
      obtain ⟨k, hk, rfl, hT, hB⟩ := hrel
      have sB := hB.size
      by_cases hlt : k < n
      · obtain ⟨b, o, rfl, hbl, hx, p0, p1, p2⟩ := (HR.out.later hB (Nat.le_refl _)).box hlt
        have HGT := Lib.hid (fun h => goodL_take hx hT.out h)
        have HGB := Lib.hid (fun h => goodL_bad hx h)
        generalize L[k] = q at *
        obtain ⟨qa, qb, qc⟩ := q
        simp only at p0 p1 p2
        have hwr : b < wr.heap.size := hbl
        go_wp2_with fail
        refine (wrGood_any _ _ _ _).mono ?_; rintro e w2 ⟨rfl, hb2⟩
        have s2 := hb2.size
        simp at s2
        have B2 : Below wr.heap.size wr w2 := bcall (by simp) hb2 ((Below.refl wr.heap.size wr).alloc (Nat.le_refl _) _)
        have HBB := Lib.hid (hB.trans (B2.mono sB))
        clear hb2 B2 p0 p1 p2 hB
        cases hq : boxB qa qb qc
        · have HLB := Lib.hid (HB2.out (HGB.out hq))
          have HRN := Lib.hid (lnR_no HLB.out)
          clear hq
          go_wp2
          go_ret2
          exact ⟨none, 0, 0, by rw [HLB.out]; rfl, by rw [HRN.out]; exact World.ownsRow_nil _ _ _ _, HBB.out⟩
        · have HG2 := Lib.hid (HGT.out hq)
          clear hq
          go_wp2
          go_roundw
          case rel => exact ⟨k + 1, by omega, by go_num, HG2.out, HBB.out⟩
          case measure => simp [intOf]; omega
      · obtain rfl : k = n := by omega
        have hgood : goodL L = true := by have h := hT.out; rw [List.take_of_length_le (by rw [HL.out]; exact Nat.le_refl _)] at h; exact h
        have HLB := Lib.hid (HB1.out hgood)
        have HRY : Hid (lnR L = nestM 61 L [] []) := (lnR_yes HLB.out).trans (nestM_start 61 L).symm
        have hrw := HR.out.later hB (Nat.le_refl _)
        have b1 : Below wr.heap.size wr (wr.alloc (.cells #[.slice none 0 0] 31)) := (Below.refl _ _).alloc (Nat.le_refl _) _
        have HAT : Hid (NestAt A k L 61 [] [] none 0 0 none 0 0 wr.heap.size wr.heap.size (wr.alloc (.cells #[.slice none 0 0] 31))) := {
          fuel := by show (60 : Int) - 0 < 61; omega
          few := by omega
          last := by show (0 : Int) ≤ 0 ∧ (0 : Int) ≤ 60; omega
          list := hrw.later b1 (Nat.le_refl _)
          begO := World.ownsRow_nil _ _ _ _
          begN := fun _ => ⟨rfl, rfl⟩
          begS := by omega
          begI := fun i hi => by cases hi
          bestO := World.ownsRow_nil _ _ _ _
          cell := by simp [go_sem]
          free := by simp [go_sem]
          notA := fun h0 b o e => by
            obtain ⟨b', o', e', hb', _⟩ := hrw.2 h0
            rw [e] at e'
            injection e' with e'
            injection e' with e1 _ _
            omega
          notG := fun g hg => by simp [Value.ownBlock] at hg
          notB := fun g hg => by simp [Value.ownBlock] at hg
          base := by simp }
        have HN := Lib.hid (fun wx hat => wrNest_any A k c L hgood h10 61 [] [] none 0 0 none 0 0 wr.heap.size wr.heap.size wx hat)
        have HB := Lib.hid hB
        have HB1' := Lib.hid b1
        clear hgood hB hrw b1
        go_wp2_with fail
        refine (HN.out _ HAT.out).mono ?_; rintro e w2 ⟨rfl, A', n', c', e1, e2, e3, e4, e5⟩
        have HO := Lib.hid e4
        have HBB : Hid (Below w.heap.size w w2) := HB.out.trans ((e5.below (a := wr) HB1'.out (fun i hi => by omega)).mono sB)
        clear e3 e4 e5
        go_wp2
        go_ret2
        exact ⟨A', n', c', by rw [HLB.out]; rfl, by rw [HRY.out]; exact own_base HO.out sB, HBB.out⟩
  · have h10' : (10 : Int) < n := by omega
    have HLB : Hid (lnB L = false) := by simp only [Hid, lnB, hl]; rw [decide_eq_false h10]; rfl
    have HRN := Lib.hid (lnR_no HLB.out)
    go_enter Try.func12, Try.ntmps12
    go_wp2
    go_ret2
    exact ⟨none, 0, 0, by rw [HLB.out]; rfl, by rw [HRN.out]; exact World.ownsRow_nil _ _ _ _, Below.refl _ _⟩

end Go.Proofs.Ythbbddgjphdgjab
