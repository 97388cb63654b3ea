/-
  Contracts: ChompAt and PlayChomp of the model; ChompAt of the program.
-/
import Derived.Test.YtghlgmbekgfmnaaPlayC
import Derived.Test.YtghlgmbekgfmnaaListS
namespace Go.Proofs.Ytghlgmbekgfmnaa
open Go.RowKit
set_option linter.unusedVariables false

theorem least_eat (x z : Int) : (if z < x then z else x) = (if x < z then x else z) := by split <;> split <;> omega
set_option maxHeartbeats 400000 in
theorem l1Least_any (a b : Int) (w : World) :
    Calls Try.prog 111 #[.int .i64 a, .int .i64 b] w fun e w' => e = .returned (.int .i64 (if b < a then b else a)) ∧ w = w' := by
  rw [← least_eat]
  by_cases h : a < b
  · rw [if_pos h]
    go_enter Try.func111, Try.ntmps111
    go_wp2
    go_ret
    exact ⟨rfl, rfl⟩
  · rw [if_neg h]
    go_enter Try.func111, Try.ntmps111
    go_wp2
    go_ret
    exact ⟨rfl, rfl⟩


set_option maxRecDepth 100000 in
set_option maxHeartbeats 2000000 in
theorem cmBite_any (A : Option Addr) (n c : Nat) (l : List Int) (x : Int) (y : Nat) (w : World) (hr : Rd w 1 A n (intCells l)) (hl : ChOK l) (hx : 0 ≤ x) (hy : y < 6) :
    Calls Try.prog 97 #[.slice A n c, .int .i64 x, .int .i64 (y : Int)] w fun e w' => ∃ A' n' c', e = .returned (.slice A' n' c') ∧ w'.ownsRow w.heap.size 3 1 (.slice A' n' c') n' (intCells (biteL l x y)) ∧ Below w.heap.size w w' := by
  obtain ⟨i0, hi, hz0, hz1, hz2⟩ := info_parts int_info
  have hll := hr.ilen
  have n6 : n ≤ 6 := by have := hl.2.1; omega
  obtain ⟨g, hg⟩ : ∃ g : Nat → Int, g = eatF (fun j => l.getD j 0) x y := ⟨_, rfl⟩
  have HG : Hid (∀ j, g j = if y ≤ j then (if x < l.getD j 0 then x else l.getD j 0) else l.getD j 0) := fun j => by rw [hg]; rfl
  have HRS : Hid (rowsK g n = biteL l x y) := by
    simp only [Hid, biteL, Int.toNat_natCast, ← hg]
    have h := rowsK_more (f := g) (n := n) (6 - n) (fun j h1 h2 => by
      rw [HG.out]
      have e : l.getD j 0 = 0 := getD_past (by omega)
      rw [e]
      split
      · rw [if_neg (by omega)]; omega
      · omega)
    rw [show n + (6 - n) = 6 by omega] at h
    exact h.symm
  have HL := Lib.hid hl
  rw [← HRS.out]
  clear hl hg hll
  go_enter Try.func97, Try.ntmps97
  go_wp2
  go_loopw [7, 12] (fun v i wr => ∃ (k m : Nat) (A' : Option Addr) (c' : Nat), k ≤ n ∧ m ≤ k ∧ i = .int .i64 k ∧ v = .slice A' m c' ∧ wr.ownsRow w.heap.size 3 1 (.slice A' m c') m (intCells (rowsK g k)) ∧ Below w.heap.size w wr) (fun _ i _ => n - (intOf i).toNat)
  case atStart => exact ⟨0, 0, none, 0, by omega, by omega, rfl, rfl, World.ownsRow_nil _ _ _ _, Below.refl _ _⟩
  case round =>
    obtain ⟨k, m, A', c', hk, hm, rfl, rfl, hown, hB⟩ := hrel
    have sB := hB.size
    by_cases hlt : k < n
    · obtain ⟨b, o, rfl, _, hxk, p0⟩ := (hr.later hB (Nat.le_refl _)).num hlt
      have hgk := HG.out k
      rw [getD_lt hxk] at hgk
      generalize l[k] = z at *
      have HR := Lib.hid (rowsK_succ g k)
      have hc3 : m + 1 ≤ maxLen := by simp only [maxLen]; omega
      by_cases hyk : y ≤ k
      · have hdy : decide ((y : Int) ≤ (k : Int)) = true := decide_eq_true (by omega)
        rw [if_pos hyk] at hgk
        have HGK := Lib.hid hgk
        have HLE := Lib.hid (fun wx => l1Least_any z x wx)
        clear hgk hxk
        generalize hv : (if x < z then x else z) = v at *
        have HV := Lib.hid hv
        clear hv
        by_cases hp : 0 < v
        · have HP := Lib.hid hp
          have hd : decide (0 < v) = true := decide_eq_true hp
          go_wp2_with fail
          refine (HLE.out _).mono ?_; rintro e wx ⟨rfl, rfl⟩
          go_wp2_with (at_builtin; refine wpList_append_own _ rfl (.tmp 25) (.tmp 27) 39 rfl w.heap.size 3 i0 (.int .i64 0) 1 8 Try.underlying39 hi hz0 hz1 hz2 rfl (by decide) _ _ _ rfl (hown.alloc _) ⟨wr.heap.size, 0, none⟩ 1 1 [.int .i64 v] rfl rfl (new1 _ _ _) (int_oneCell [v]) hc3 (by omega) (Nat.le_trans sB (show wr.heap.size ≤ _ by simp)) ?_)
          intro v' w2 hown' hgrow _
          have hb2 := gb_new (Nat.le_refl _) (hB.alloc (by omega) (.cells #[.int .i64 v] 3)) hgrow (fun g hg => (hown.lt g hg).1)
          obtain ⟨A2, c2', rfl⟩ := own_slice hown'
          clear hgrow hown hB hc3
          go_wp2
          go_roundw
          case rel => exact ⟨k + 1, m + 1, A2, c2', by omega, by omega, by go_num, rfl, by rw [HR.out, HGK.out, if_pos HP.out, intCells_append]; exact hown', hb2⟩
          case measure => simp [intOf]; omega
        · have HP := Lib.hid hp
          have hd : decide (0 < v) = false := decide_eq_false hp
          go_wp2_with fail
          refine (HLE.out _).mono ?_; rintro e wx ⟨rfl, rfl⟩
          go_wp2
          go_roundw
          case rel => exact ⟨k + 1, m, A', c', by omega, by omega, by go_num, rfl, by rw [HR.out, HGK.out, if_neg (by have := HP.out; omega), List.append_nil]; exact hown, hB⟩
          case measure => simp [intOf]; omega
      · have hdy : decide ((y : Int) ≤ (k : Int)) = false := decide_eq_false (by omega)
        rw [if_neg hyk] at hgk
        have HGK := Lib.hid hgk
        clear hgk hxk
        by_cases hp : 0 < z
        · have HP := Lib.hid hp
          have hd : decide (0 < z) = true := decide_eq_true hp
          go_wp2_with (at_builtin; refine wpList_append_own _ rfl (.tmp 25) (.tmp 27) 39 rfl w.heap.size 3 i0 (.int .i64 0) 1 8 Try.underlying39 hi hz0 hz1 hz2 rfl (by decide) _ _ _ rfl (hown.alloc _) ⟨wr.heap.size, 0, none⟩ 1 1 [.int .i64 z] rfl rfl (new1 _ _ _) (int_oneCell [z]) hc3 (by omega) (Nat.le_trans sB (show wr.heap.size ≤ _ by simp)) ?_)
          intro v' w2 hown' hgrow _
          have hb2 := gb_new (Nat.le_refl _) (hB.alloc (by omega) (.cells #[.int .i64 z] 3)) hgrow (fun g hg => (hown.lt g hg).1)
          obtain ⟨A2, c2', rfl⟩ := own_slice hown'
          clear hgrow hown hB hc3
          go_wp2
          go_roundw
          case rel => exact ⟨k + 1, m + 1, A2, c2', by omega, by omega, by go_num, rfl, by rw [HR.out, HGK.out, if_pos HP.out, intCells_append]; exact hown', hb2⟩
          case measure => simp [intOf]; omega
        · have HP := Lib.hid hp
          have hd : decide (0 < z) = false := decide_eq_false hp
          go_wp2
          go_roundw
          case rel => exact ⟨k + 1, m, A', c', by omega, by omega, by go_num, rfl, by rw [HR.out, HGK.out, if_neg (by have := HP.out; omega), List.append_nil]; exact hown, hB⟩
          case measure => simp [intOf]; omega
    · have hkn : k = n := by omega
      rw [hkn] at hown
      clear hkn
      go_wp2
      go_ret
      exact ⟨A', m, c', rfl, hown, hB⟩

/-- what ChompAt returns -/
def atO (l : List Int) (x y : Int) : Option (List Int) := if chB l = true ∧ canC l x y = true then some (biteL l x y) else none
def atB (l : List Int) (x y : Int) : Bool := (atO l x y).isSome
def atR (l : List Int) (x y : Int) : List Int := (atO l x y).getD []
theorem length_atR (l : List Int) (x y : Int) : (atR l x y).length ≤ 6 := by
  unfold atR atO
  split
  · rename_i h
    exact length_rowsK _ 6
  · simp
theorem at_no {l : List Int} {x y : Int} (h : ¬ (chB l = true ∧ canC l x y = true)) : atB l x y = false ∧ atR l x y = [] := by simp [atB, atR, atO, h]
theorem at_yes {l : List Int} {x y : Int} (h : chB l = true) (h2 : canC l x y = true) : atB l x y = true ∧ atR l x y = biteL l x y := by simp [atB, atR, atO, h, h2]
theorem at_pl (l : List Int) (x y : Int) : plO l (fun _ => [x, y]) 1 = atO l x y := by
  unfold plO atO plK plK stepM
  by_cases h : chB l = true
  · simp [h]
  · simp [h]



end Go.Proofs.Ytghlgmbekgfmnaa
