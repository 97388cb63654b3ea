/-
  Contracts: GoodKept of the model; what is kept of one of several bars so that these are lost, of the program.
-/
import Derived.Test.YthemmckchmpicaaKeptS
namespace Go.Proofs.Ythemmckchmpicaa
open Go.RowKit
set_option linter.unusedVariables false
set_option linter.unusedSimpArgs false

theorem filter_take_yes {f : Int × Int → Bool} {l : List (Int × Int)} {k : Nat} (h : k < l.length) (hf : f l[k] = true) : (l.take (k + 1)).filter f = (l.take k).filter f ++ [l[k]] := by
  rw [List.take_succ_eq_append_getElem h, List.filter_append]; simp [hf]
theorem filter_take_no {f : Int × Int → Bool} {l : List (Int × Int)} {k : Nat} (h : k < l.length) (hf : f l[k] = false) : (l.take (k + 1)).filter f = (l.take k).filter f := by
  rw [List.take_succ_eq_append_getElem h, List.filter_append]; simp [hf]

/-- those that leave a number of one heap -/
def lkF (a : Nat) (p : Int × Int) : Bool := decide (a ^^^ hpN p.1 p.2 = 0)
def gkL (x y : Int) : List (Int × Int) := (kmL x y).filter (lkF 0)
theorem length_gkL {x y : Int} (h : barB x y = true) : (gkL x y).length ≤ 22 := Nat.le_trans (List.length_filter_le _ _) (length_kmL h)
theorem xself (a : Nat) : a ^^^ a = 0 := Nat.xor_self a

set_option maxRecDepth 100000 in
set_option maxHeartbeats 4000000 in
theorem sGoodKept_yes (x y : Int) (w : World) (hB : barB x y = true) :
    Calls Try.prog 22 #[bar2 x y] w fun e w' => ∃ A n c, e = .returned (.tuple #[.slice A n c, .bool true]) ∧ w'.ownsRow w.heap.size 26 2 (.slice A n c) n (pairCells (gkL x y)) ∧ Below w.heap.size w w' := by
  obtain ⟨i0, hi, hz0, hz1, hz2⟩ := info_parts bar_info
  have HBB := Lib.hid hB
  have HLL := Lib.hid (length_kmL hB)
  go_enter Try.func22, Try.ntmps22
  go_wp2_with fail
  refine (brGood_any _ _ _).mono ?_; rintro e w1 ⟨rfl, hb1⟩; have s1 := hb1.size; obtain ⟨hc1, hf1⟩ := bcell hb1; have z1_w0 : w.heap.size < w1.heap.size := (by have q := s1; first | omega | (simp at q; omega))
  go_wp2_with fail
  clear hB
  refine (laKept_any _ _ _ HBB.out).mono ?_; rintro e w2 ⟨A, n, c, rfl, own2, hb2⟩
  have s2 := hb2.size
  have hb02 : Below w.heap.size w w2 := Below.trans (by (repeat (first | (with_reducible exact Below.refl _ _) | (with_reducible assumption) | (with_reducible refine Below.drew ?_) | ((with_reducible refine balloc ?_ _ ?_); · (first | (simp; done) | (simp; omega) | omega)) | ((with_reducible refine bset ?_ _ ?_); · (first | (simp; done) | (simp; omega) | omega)) | (with_reducible refine bdrewN _ ?_) | ((with_reducible refine bcall ?_ (by assumption) ?_); · (first | (simp; done) | (simp; omega) | omega))))) (hb2.mono (by omega))
  have hn : (kmL x y).length = n := by have := own2.1; rw [length_pairCells] at this; omega
  have hn22 : n ≤ 22 := by have := HLL.out; omega
  have HBS := Lib.hid (kmL_bars HBB.out)
  generalize hM : kmL x y = M at *
  have HM := Lib.hid hM
  have HN := Lib.hid hn
  have hr := Rd.of_own own2
  have HB02 := Lib.hid hb02
  clear hn hM own2 hc1 hf1 hb1 hb2 hb02
  go_wp2
  go_loopw [4, 13] (fun v i wr => ∃ (k m : Nat) (A' : Option Addr) (c' : Nat), k ≤ n ∧ i = .int .i64 k ∧ v = .slice A' m c' ∧ wr.ownsRow w2.heap.size 26 2 (.slice A' m c') m (pairCells ((M.take k).filter (lkF 0))) ∧ Below w2.heap.size w2 wr ∧ m ≤ k) (fun _ i _ => n - (intOf i).toNat)
  case atStart => exact ⟨0, 0, none, 0, by omega, rfl, rfl, World.ownsRow_nil _ _ _ _, Below.refl _ _, by omega⟩
  case round =>
    obtain ⟨k, m, A', c', hk, rfl, rfl, hown, hB, hmk⟩ := hrel
    have hsz := hB.size
    by_cases hlt : k < n
    · obtain ⟨b, o, rfl, hbl, hx, p0, p1⟩ := (hr.later hB (Nat.le_refl _)).pair hlt
      have hBp := HBS.out _ (List.getElem_mem hx)
      have HBp := Lib.hid hBp
      have HY : Hid (lkF 0 M[k] = true → (M.take (k + 1)).filter (lkF 0) = (M.take k).filter (lkF 0) ++ [((M[k]).1, (M[k]).2)]) := fun h => filter_take_yes hx h
      have HZ : Hid (lkF 0 M[k] = false → (M.take (k + 1)).filter (lkF 0) = (M.take k).filter (lkF 0)) := fun h => filter_take_no hx h
      have hf : lkF 0 M[k] = decide (hpN (M[k]).1 (M[k]).2 = 0) := by simp [lkF]
      rw [hf] at HY HZ
      clear hBp hf
      generalize (M[k]).1 = a at *
      generalize (M[k]).2 = b2 at *
      have HO := Lib.hid hown
      have HB := Lib.hid hB
      have hbl2 : b < wr.heap.size + 1 := by omega
      clear hown hB
      go_wp2_with fail
      refine (laHeap_any _ _ _ HBp.out).mono ?_; rintro e w3 ⟨rfl, hb3⟩; have s3 := hb3.size; obtain ⟨hc3, hf3⟩ := bcell hb3
      have z3 : wr.heap.size < w3.heap.size := by simp at s3; omega
      have hO3 := own_later (HO.out.alloc (.cells #[.int .i64 a, .int .i64 b2] 26)) hb3 (Nat.le_refl _)
      have hB3 := (HB.out.alloc (by omega) (.cells #[.int .i64 a, .int .i64 b2] 26)).trans (hb3.mono (by simp; omega))
      have d0 : w3.cell? ⟨wr.heap.size, 0, none⟩ = some (.int .i64 a) := by rw [hc3 _ _ (by simp)]; simp [go_sem]
      have d1 : w3.cell? ⟨wr.heap.size, 1, none⟩ = some (.int .i64 b2) := by rw [hc3 _ _ (by simp)]; simp [go_sem]
      clear hc3 hf3 hb3 s3
      by_cases h0 : hpN a b2 = 0
      · have t0 : (((hpN a b2 : Nat) : Int) == 0) = true := by simp [h0]
        have HYY := HY.out (by simp [h0])
        have HYY := Lib.hid HYY
        have HO3 := Lib.hid hO3
        have HB3 := Lib.hid hB3
        have hcm : m + 1 ≤ maxLen := by simp only [maxLen]; omega
        clear h0 hO3 hB3 p0 p1
        go_wp2_with (at_builtin; refine wpList_append_own _ rfl (.tmp 20) (.tmp 22) 29 rfl w2.heap.size 26 i0 (bar2 0 0) 2 16 Try.underlying29 hi hz0 hz1 hz2 rfl (by decide) _ _ _ rfl (HO3.out.alloc _) ⟨w3.heap.size, 0, none⟩ 1 1 [.int .i64 a, .int .i64 b2] rfl rfl (new2 _ _ _ _) (two_oneCell _ _ _ _) hcm (by omega) (by simp; omega) ?_)
        intro v' w4 hown' hgrow _
        have hb4 := bgrow (HB3.out.alloc (by omega) (.cells #[.int .i64 a, .int .i64 b2] 26)) (HO3.out.alloc _) hgrow (by simp; omega)
        obtain ⟨A2, c2, rfl⟩ := own_slice hown'
        have HO4 := Lib.hid hown'
        have HB4 := Lib.hid hb4
        clear hown' hb4 hgrow d0 d1
        go_wp2
        go_roundw
        case rel => exact ⟨k + 1, m + 1, A2, c2, by omega, by go_num, rfl, by rw [HYY.out, pairCells_append]; exact HO4.out, HB4.out, by omega⟩
        case measure => simp [intOf]; omega
      · have t0 : (((hpN a b2 : Nat) : Int) == 0) = false := by simp; omega
        have HYY := HZ.out (by simp [h0])
        have HYY := Lib.hid HYY
        have HO3 := Lib.hid hO3
        have HB3 := Lib.hid hB3
        clear h0 hO3 hB3 p0 p1
        go_wp2
        go_roundw
        case rel => exact ⟨k + 1, m, A', c', by omega, by go_num, rfl, by rw [HYY.out]; exact HO3.out, HB3.out, by omega⟩
        case measure => simp [intOf]; omega
    · go_wp2
      go_ret2
      have : k = n := by omega
      subst this
      have hM := HM.out
      rw [List.take_of_length_le (by rw [HN.out]; exact Nat.le_refl _), ← hM] at hown
      exact ⟨A', m, c', rfl, own_base hown (by have := HB02.out.size; omega), HB02.out.trans (hB.mono (by have := HB02.out.size; omega))⟩

end Go.Proofs.Ythemmckchmpicaa
