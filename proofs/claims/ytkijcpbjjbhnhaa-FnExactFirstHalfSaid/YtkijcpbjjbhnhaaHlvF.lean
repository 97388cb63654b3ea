/-
  Contracts: LeastDifference, FirstHalf, CountHalves of the program. Conditions: none.
-/
import Derived.Test.YtkijcpbjjbhnhaaHlvE
namespace Go.Proofs.Ytkijcpbjjbhnhaa
open Go.RowKit
set_option linter.unusedVariables false
set_option linter.unusedSimpArgs false

def ldR (W : List Int) : Int := if wtB W then W.sum - 2 * bkL W (halvesP W.length) else 0
def fhR (W : List Int) : List Int := if wtB W then rowL (evenL W (halvesP W.length)) 0 else []
def chR (W : List Int) : Int := if wtB W then ((evenL W (halvesP W.length)).length : Int) else 0
theorem bk_in {W : List Int} (h : wtB W = true) : 0 ≤ bkL W (halvesP W.length) ∧ bkL W (halvesP W.length) ≤ W.sum ∧ W.sum ≤ 12000 ∧ evenL W (halvesP W.length) ≠ [] ∧ (evenL W (halvesP W.length)).length ≤ 2048 := by
  obtain ⟨h1, h12, hW⟩ := wtB_true h
  have hW0 : ∀ z ∈ W, 0 ≤ z := fun z hz => by have := hW z hz; omega
  have hs := sumW_bound (l := W) (fun z hz => by have := hW z hz; omega)
  have hm := halvesP_mn h1 hW0
  refine ⟨bkL_nonneg _ _, ?_, by omega, ?_, ?_⟩
  · rcases bkL_att W (halvesP W.length) 0 with e | ⟨t, ht, e⟩
    · show (halvesP W.length).foldl _ 0 ≤ _; rw [e]; omega
    · show (halvesP W.length).foldl _ 0 ≤ _; rw [← e]
      have := hm t ht
      unfold mnH; omega
  · refine evenL_ne ?_ (fun t ht => (hm t ht).1)
    intro e
    have h2 := extE_len (W.length - 1) 1 [0]
    have h3 : (halvesP W.length).length = 2 ^ (W.length - 1) := h2
    rw [e] at h3
    have := Nat.one_le_two_pow (n := W.length - 1)
    simp at h3
    omega
  · exact Nat.le_trans (by unfold evenL; exact List.length_filter_le _ _) (halvesP_len h12)
theorem length_fhR (W : List Int) : (fhR W).length ≤ 12 := by
  unfold fhR
  cases h : wtB W
  · simp
  · obtain ⟨h1, h12, _⟩ := wtB_true h
    simp only [if_true]
    have hne := (bk_in h).2.2.2.1
    have hl : 0 < (evenL W (halvesP W.length)).length := List.length_pos_iff.2 hne
    have hm : rowL (evenL W (halvesP W.length)) 0 ∈ halvesP W.length := by
      unfold rowL
      rw [List.getD_eq_getElem?_getD, List.getElem?_eq_getElem hl]
      have := List.getElem_mem hl
      exact (List.mem_filter.1 this).1
    have := extE_short (W.length - 1) 1 [0] _ hm
    simp at this
    omega

set_option maxRecDepth 100000 in
set_option maxHeartbeats 2000000 in
theorem leastDiff_any (A : Option Addr) (n c : Nat) (W : List Int) (w : World) (hr : Rd w 1 A n (intCells W)) (hn : n ≤ 4000000000) :
    Calls Try.prog 20 #[.slice A n c] w fun e w' => e = .returned (.tuple #[.int .i64 (ldR W), .bool (wtB W)]) ∧ Below w.heap.size w w' := by
  cases h : wtB W
  · rw [show ldR W = 0 by simp [ldR, h]]
    go_enter Try.func20, Try.ntmps20
    go_wp2_with fail
    refine (areWeights_any _ _ _ W _ hr hn).mono ?_; rintro e w1 ⟨rfl, hb1⟩
    rw [h]
    go_wp2
    go_ret2
    exact ⟨rfl, hb1⟩
  · have hll := hr.ilen
    have hbk := bk_in h
    have HV : Hid (ldR W = W.sum - 2 * bkL W (halvesP n)) := by simp [Hid, ldR, h, hll]
    rw [hll] at hbk
    rw [HV.out]
    have HE := Lib.hid (fun wx hr => evenHalves_any A n c W wx hr h)
    clear HV hll
    obtain ⟨k1, k2, k3, _, _⟩ := hbk
    generalize bkL W (halvesP n) = bk at *
    generalize W.sum = all at *
    go_enter Try.func20, Try.ntmps20
    go_wp2_with fail
    refine (areWeights_any _ _ _ W _ hr hn).mono ?_; rintro e w1 ⟨rfl, hb1⟩
    rw [h]
    go_wp2_with fail
    refine (HE.out _ (hr.later hb1 (Nat.le_refl _))).mono ?_; rintro e w2 ⟨A', n', c', rfl, _, _, hb2⟩
    have BB := Lib.hid (hb1.trans (hb2.mono hb1.size))
    have s2 := BB.out.size
    clear hb1 hb2
    go_wp2
    go_ret2
    exact ⟨by rw [show all - 2 * bk = all - bk - bk by omega]; rfl, BB.out.trans (((Below.refl w2.heap.size w2).alloc (Nat.le_refl _) _).mono s2)⟩

set_option maxRecDepth 100000 in
set_option maxHeartbeats 2000000 in
theorem countHalves_any (A : Option Addr) (n c : Nat) (W : List Int) (w : World) (hr : Rd w 1 A n (intCells W)) (hn : n ≤ 4000000000) :
    Calls Try.prog 26 #[.slice A n c] w fun e w' => e = .returned (.tuple #[.int .i64 (chR W), .bool (wtB W)]) ∧ Below w.heap.size w w' := by
  cases h : wtB W
  · rw [show chR W = 0 by simp [chR, h]]
    go_enter Try.func26, Try.ntmps26
    go_wp2_with fail
    refine (areWeights_any _ _ _ W _ hr hn).mono ?_; rintro e w1 ⟨rfl, hb1⟩
    rw [h]
    go_wp2
    go_ret2
    exact ⟨rfl, hb1⟩
  · have hll := hr.ilen
    have HV : Hid (chR W = ((evenL W (halvesP n)).length : Int)) := by simp [Hid, chR, h, hll]
    rw [HV.out]
    have HE := Lib.hid (fun wx hr => evenHalves_any A n c W wx hr h)
    clear HV hll
    generalize bkL W (halvesP n) = bk at *
    generalize W.sum = all at *
    go_enter Try.func26, Try.ntmps26
    go_wp2_with fail
    refine (areWeights_any _ _ _ W _ hr hn).mono ?_; rintro e w1 ⟨rfl, hb1⟩
    rw [h]
    go_wp2_with fail
    refine (HE.out _ (hr.later hb1 (Nat.le_refl _))).mono ?_; rintro e w2 ⟨A', n', c', rfl, hl, _, hb2⟩
    have BB := Lib.hid (hb1.trans (hb2.mono hb1.size))
    have s2 := BB.out.size
    have HL := Lib.hid hl
    clear hb1 hb2 hl
    go_wp2
    go_ret2
    exact ⟨by rw [HL.out]; rfl, BB.out.trans (((Below.refl w2.heap.size w2).alloc (Nat.le_refl _) _).mono s2)⟩

set_option maxRecDepth 100000 in
set_option maxHeartbeats 2000000 in
theorem firstHalf_any (A : Option Addr) (n c : Nat) (W : List Int) (w : World) (hr : Rd w 1 A n (intCells W)) (hn : n ≤ 4000000000) :
    Calls Try.prog 22 #[.slice A n c] w fun e w' => ∃ A' n' c', e = .returned (.tuple #[.slice A' n' c', .bool (wtB W)]) ∧ w'.ownsRow w.heap.size 3 1 (.slice A' n' c') n' (intCells (fhR W)) ∧ Below w.heap.size w w' := by
  cases h : wtB W
  · rw [show fhR W = [] by simp [fhR, h]]
    go_enter Try.func22, Try.ntmps22
    go_wp2_with fail
    refine (areWeights_any _ _ _ W _ hr hn).mono ?_; rintro e w1 ⟨rfl, hb1⟩
    rw [h]
    go_wp2
    go_ret2
    exact ⟨none, 0, 0, rfl, World.ownsRow_nil _ _ _ _, hb1⟩
  · have hll := hr.ilen
    have HV : Hid (fhR W = rowL (evenL W (halvesP n)) 0) := by simp [Hid, fhR, h, hll]
    have hbk := bk_in h
    rw [hll] at hbk
    have HNE := Lib.hid hbk.2.2.2.1
    rw [HV.out]
    have HE := Lib.hid (fun wx hr => evenHalves_any A n c W wx hr h)
    clear HV hll hbk
    generalize bkL W (halvesP n) = bk at *
    generalize W.sum = all at *
    go_enter Try.func22, Try.ntmps22
    go_wp2_with fail
    refine (areWeights_any _ _ _ W _ hr hn).mono ?_; rintro e w1 ⟨rfl, hb1⟩
    rw [h]
    go_wp2_with fail
    refine (HE.out _ (hr.later hb1 (Nat.le_refl _))).mono ?_; rintro e w2 ⟨A', n', c', rfl, hl, ⟨AA, CC, htop, hrows⟩, hb2⟩
    have BB := Lib.hid (hb1.trans (hb2.mono hb1.size))
    have s1 := hb1.size
    have s2 := BB.out.size
    have hn0 : 0 < n' := by
      rw [← hl]; exact List.length_pos_iff.2 HNE.out
    have hrow := own_base (hrows 0 hn0) (show w.heap.size ≤ w1.heap.size from s1)
    have HROW := Lib.hid (own_later hrow ((Below.refl w2.heap.size w2).alloc (Nat.le_refl _) (.cells #[.int .i64 bk, .int .i64 (all - bk), .int .i64 0, .int .i64 0] 52)) (Nat.le_refl _))
    obtain ⟨b, o, e, hbl, hc⟩ := (Rd.of_own htop).2 hn0
    have p1 := hc 0 _ (ssCells_at hn0)
    subst e
    have hn0i : ((0 : Int) < (n' : Int)) = True := by simp; exact hn0
    rw [Nat.add_zero] at p1
    clear hb1 hb2 hl htop hrows hrow hc
    generalize (rowL (evenL W (halvesP n)) 0).length = q at *
    go_wp2
    go_ret2
    exact ⟨AA 0, q, CC 0, rfl, HROW.out, BB.out.trans (((Below.refl w2.heap.size w2).alloc (Nat.le_refl _) _).mono s2)⟩

end Go.Proofs.Ytkijcpbjjbhnhaa
