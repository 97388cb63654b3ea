/-
  Contracts: PoorestShare of the program and of the model. Conditions: the slice's capacity as the language has it.
-/
import Derived.Test.YtkijcpbjjbhnhaaPoorA
import Derived.Test.YtkijcpbjjbhnhaaPoorM
namespace Go.Proofs.Ytkijcpbjjbhnhaa
open Go.RowKit
set_option linter.unusedVariables false
set_option linter.unusedSimpArgs false

/-- is there an answer? -/
def psB (L : List Int) (s : Int) : Bool := wtB L && inB s 1 4
/-- the answer -/
def psV (L : List Int) (s : Int) : Int := if psB L s then poorV L (List.replicate s.toNat 0) else 0
theorem psB_wt {L : List Int} {s : Int} (h : wtB L = false) : psB L s = false := by simp [psB, h]
theorem psB_in {L : List Int} {s : Int} (h : inB s 1 4 = false) : psB L s = false := by simp [psB, h]
theorem psV_no {L : List Int} {s : Int} (h : psB L s = false) : psV L s = 0 := by simp [psV, h]
theorem psV_yes {L : List Int} {m : Nat} (h : psB L (m : Int) = true) : psV L (m : Int) = poorV L (List.replicate m 0) := by simp [psV, h]
theorem repl_getD (m j : Nat) : (List.replicate m (0 : Int)).getD j 0 = 0 := by
  simp only [List.getD, List.getElem?_replicate]
  by_cases h : j < m <;> simp [h]
theorem minL_repl {m : Nat} (hm : 1 ≤ m) : minL (List.replicate m (0 : Int)) = 0 := by
  refine minL_eq ?_ (fun x hx => ?_)
  · rw [List.mem_replicate]; exact ⟨by omega, rfl⟩
  · rw [List.eq_of_mem_replicate hx]; exact Int.le_refl _

set_option maxRecDepth 100000 in
set_option maxHeartbeats 2000000 in
theorem poorestShare_any (A : Option Addr) (n c : Nat) (L : List Int) (s : Int) (w : World) (hr : Rd w 1 A n (intCells L)) (hn : n ≤ 4000000000) (hc : n ≤ c) (hc2 : c ≤ 4000000000) :
    Calls Try.prog 30 #[.slice A n c, .int .i64 s] w fun e w' => e = .returned (.tuple #[.int .i64 (psV L s), .bool (psB L s)]) ∧ Below w.heap.size w w' := by
  have HA := Lib.hid (areWeights_any A n c L w hr hn)
  cases h : wtB L
  · rw [h] at HA
    rw [psV_no (psB_wt h), psB_wt h]
    go_enter Try.func30, Try.ntmps30
    go_wp2_with fail
    refine HA.out.mono ?_; rintro e w1 ⟨rfl, hb1⟩
    go_wp2
    go_ret2
    exact ⟨rfl, hb1⟩
  · rw [h] at HA
    cases hi : inB s 1 4
    · rw [psV_no (psB_in hi), psB_in hi]
      go_enter Try.func30, Try.ntmps30
      go_wp2_with fail
      refine HA.out.mono ?_; rintro e w1 ⟨rfl, hb1⟩
      have HB1 := Lib.hid hb1
      clear hb1
      go_wp2_with fail
      refine (upToW_any _ _ _).mono ?_; rintro e wx ⟨rfl, rfl⟩
      rw [hi]
      go_wp2
      go_ret2
      exact ⟨rfl, HB1.out⟩
    · have hp : psB L s = true := by simp [psB, h, hi]
      have hs := inB_trueW hi
      obtain ⟨m, rfl⟩ : ∃ m : Nat, s = (m : Int) := ⟨s.toNat, by omega⟩
      rw [psV_yes hp, hp]
      obtain ⟨h1, h2, h3⟩ := wtB_true h
      have hll := hr.ilen
      have HP := Lib.hid (fun wx (hx : Rd wx 1 A n (intCells L)) => poorAt_any L (List.replicate m 0) n c A wx hx (by omega) hc hc2 (by simp; omega) (by simp; omega) (by rw [minL_repl (by omega), repl_getD]) (fun x hx => by rw [List.eq_of_mem_replicate hx]; omega) h3)
      unfold arr4 at HP
      simp only [repl_getD, List.length_replicate] at HP
      have HRR := Lib.hid hr
      generalize poorV L (List.replicate m 0) = V at *
      clear hll h1 h2 h3 hs hr hp h
      go_enter Try.func30, Try.ntmps30
      go_wp2_with fail
      refine HA.out.mono ?_; rintro e w1 ⟨rfl, hb1⟩
      have HB1 := Lib.hid hb1
      clear hb1
      go_wp2_with fail
      refine (upToW_any _ _ _).mono ?_; rintro e wx ⟨rfl, rfl⟩
      rw [hi]
      go_wp2_with fail
      refine (HP.out _ (HRR.out.later HB1.out (Nat.le_refl _))).mono ?_; rintro e w2 ⟨rfl, hb2⟩
      have HB2 := Lib.hid (HB1.out.trans (hb2.mono HB1.out.size))
      clear hb2
      go_wp2
      go_ret2
      exact ⟨rfl, HB2.out⟩

theorem made_intP (m : Nat) : (madeCells #[Value.int .i64 0] m).toList = intCells (List.replicate m 0) := by
  rw [toList_madeCells_one]; simp [intCells]
set_option maxRecDepth 100000 in
set_option maxHeartbeats 2000000 in
theorem sPoorestShare_any (A : Option Addr) (n c : Nat) (L : List Int) (s : Int) (w : World) (hr : Rd w 1 A n (intCells L)) (hn : n ≤ 4000000000) (hc : n ≤ c) (hc2 : c ≤ 4000000000) :
    Calls Try.prog 29 #[.slice A n c, .int .i64 s] w fun e w' => e = .returned (.tuple #[.int .i64 (psV L s), .bool (psB L s)]) ∧ Below w.heap.size w w' := by
  have HA := Lib.hid (skGood_any A n c L w hr hn)
  cases h : wtB L
  · rw [h] at HA
    rw [psV_no (psB_wt h), psB_wt h]
    go_enter Try.func29, Try.ntmps29
    go_wp2_with fail
    refine HA.out.mono ?_; rintro e w1 ⟨rfl, rfl⟩
    go_wp2
    go_ret2
    exact ⟨rfl, Below.refl _ _⟩
  · rw [h] at HA
    cases hi : inB s 1 4
    · rw [psV_no (psB_in hi), psB_in hi]
      go_enter Try.func29, Try.ntmps29
      go_wp2_with fail
      refine HA.out.mono ?_; rintro e w1 ⟨rfl, rfl⟩
      go_wp2_with fail
      refine (l1In_any _ _ _ _).mono ?_; rintro e wx ⟨rfl, rfl⟩
      rw [hi]
      go_wp2
      go_ret2
      exact ⟨rfl, Below.refl _ _⟩
    · have hp : psB L s = true := by simp [psB, h, hi]
      have hs := inB_trueW hi
      obtain ⟨m, rfl⟩ : ∃ m : Nat, s = (m : Int) := ⟨s.toNat, by omega⟩
      rw [psV_yes hp, hp]
      obtain ⟨i0, hii, hz0, hz1, hz2⟩ := info_parts int_info
      obtain ⟨h1, h2, h3⟩ := wtB_true h
      have hll := hr.ilen
      have HP := Lib.hid (fun wx g (hx : Rd wx 1 A n (intCells L)) (hy : Rd wx 1 (some ⟨g, 0, none⟩) m (intCells (List.replicate m 0))) => skPoor_any L L (List.replicate m 0) n c 0 m m A (some ⟨g, 0, none⟩) wx hx rfl (by omega) (by omega) hy (by omega) (by omega) (by omega) (by simp only [maxLen]; omega) (fun x hx => by rw [List.eq_of_mem_replicate hx]; omega) h3)
      have HRR := Lib.hid hr
      generalize poorV L (List.replicate m 0) = V at *
      have hm1 : 1 ≤ m := by omega
      have hm4 : m ≤ 4 := by omega
      clear hll h1 h2 h3 hs hr hp h
      go_enter Try.func29, Try.ntmps29
      go_wp2_with fail
      refine HA.out.mono ?_; rintro e w1 ⟨rfl, rfl⟩
      go_wp2_with fail
      refine (l1In_any _ _ _ _).mono ?_; rintro e wx ⟨rfl, rfl⟩
      rw [hi]
      go_wp2_with (at_make; refine wpList_make_full _ rfl (.tmp 15) (.tmp 15) 22 rfl w.heap.size 3 i0 (.int .i64 0) 1 Try.underlying22 hii hz0 hz1 .i64 .i64 _ _ m rfl rfl rfl rfl ?b2 ?b3 (Nat.le_refl _) ?_)
      case b2 => rw [hz2]; omega
      case b3 => simp only [maxLen]; omega
      intro w1 hownT hgrowT
      have hownT : w1.ownsRow w.heap.size 3 1 (.slice (some ⟨w.heap.size, 0, none⟩) m m) m (intCells (List.replicate m 0)) := by
        first
          | (rw [made_intP] at hownT; exact hownT)
          | (rw [show (madeCells (Value.int .i64 0).cells (m * 1)).toList = intCells (List.replicate m 0) by rw [Nat.mul_one]; exact made_intP m] at hownT; exact hownT)
      have hbT : Below w.heap.size w w1 := (Below.refl _ _).grown hgrowT (Nat.le_refl _) (fun k hk => by cases hk)
      have HBT := Lib.hid hbT
      have HPP := Lib.hid (HP.out w1 w.heap.size (HRR.out.later hbT (Nat.le_refl _)) (Rd.of_own hownT))
      clear hownT hgrowT hbT
      go_wp2_with fail
      refine HPP.out.mono ?_; rintro e w2 ⟨rfl, hb2⟩
      have HB2 := Lib.hid (HBT.out.trans (hb2.mono HBT.out.size))
      clear hb2
      go_wp2
      go_ret2
      exact ⟨rfl, HB2.out⟩
end Go.Proofs.Ytkijcpbjjbhnhaa
