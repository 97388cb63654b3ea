/-
  Contracts: slices.Grow of nothing, slices.Concat of two slices of clues; clues without one, of the program and of the model. Conditions: none.
-/
import Derived.Test.YtghlgmbekgfmnaaPzW
import Derived.Test.YtghlgmbekgfmnaaPuzK
import Derived.Test.YtghlgmbekgfmnaaReg
import Derived.Lib.AppendZeros
import Derived.Maps.AppendAt
import Derived.Laws.AppendOwn
namespace Go.Proofs.Ytghlgmbekgfmnaa
open Go.RowKit Go.Maps
set_option linter.unusedVariables false
set_option linter.unusedSimpArgs false

theorem box_oneCell (S : List Clu) : ∀ u ∈ boxCells S, u.oneCell' = true := by
  induction S with
  | nil => intro u hu; simp [boxCells] at hu
  | cons p r ih =>
    intro u hu
    simp only [boxCells, List.mem_cons] at hu
    rcases hu with rfl | rfl | rfl | h
    · rfl
    · rfl
    · rfl
    · exact ih u h

set_option maxRecDepth 100000 in
set_option maxHeartbeats 2000000 in
theorem grow_nil (n : Nat) (w : World) (hn : n ≤ 1000) :
    Calls Try.prog 119 #[.slice none 0 0, .int .i64 (n : Int)] w fun e w' => ∃ A c, e = .returned (.slice A 0 c) ∧ w'.ownsRow w.heap.size 25 3 (.slice A 0 c) 0 (boxCells []) ∧ Below w.heap.size w w' := by
  obtain ⟨i0, hi, hz0, hz1, hz2⟩ := info_parts clue_info
  by_cases h0 : n = 0
  · subst h0
    go_enter Try.func119, Try.ntmps119
    go_wp2
    go_ret
    exact ⟨none, 0, rfl, World.ownsRow_nil _ _ _ _, Below.refl _ _⟩
  · have hrz : ∀ ty, (Builtin.append_ #[33, 3] ty #[.slice none 0 0, .int .i64 (n : Int)]).run Try.prog w = .ok (.slice (some ⟨w.heap.size, 0, none⟩) n (grownCap w n 0 25)) (w.drew.alloc (.cells (Builtin.zeroCells (bx3 0 0 0).cells n ++ Builtin.zeroCells (bx3 0 0 0).cells (grownCap w n 0 25 - n)) 25)) := fun ty =>
      Lib.run_append_nil_zeros w 33 3 ty 25 i0 (bx3 0 0 0) .i64 .i64 Try.underlying33 Try.underlying3 hi hz0 n (by omega) (by rw [hz1]; omega) (by omega) (by rw [hz2]; omega)
    have hG := grownCap_ge w n 0 25
    have hG63 := grownCap_le_maxLen w n 0 25 (by unfold maxLen; omega)
    generalize grownCap w n 0 25 = G at *
    have hGm : G ≤ 9223372036854775807 := by unfold maxLen at hG63; omega
    have HSZ : Hid ((Builtin.zeroCells (bx3 0 0 0).cells n ++ Builtin.zeroCells (bx3 0 0 0).cells (G - n)).size = G * 3) := by
      simp only [Hid, Array.size_append, size_zeroCells]
      show n * 3 + (G - n) * 3 = G * 3
      omega
    generalize Builtin.zeroCells (bx3 0 0 0).cells n ++ Builtin.zeroCells (bx3 0 0 0).cells (G - n) = Z at *
    go_enter Try.func119, Try.ntmps119
    go_wp2_with (at_builtin; refine Lib.wpList_append_run _ rfl _ _ _ _ rfl _ _ rfl rfl _ _ (hrz _) ?_)
    go_ret
    refine ⟨some ⟨w.heap.size, 0, none⟩, G, rfl, ⟨by simp [boxCells], .inr ⟨w.heap.size, G, Z, rfl, Nat.le_refl _, ?_, Nat.zero_le _, by unfold maxLen; omega, HSZ.out, by simp [boxCells]⟩⟩, (Below.refl _ _).drew.alloc (Nat.le_refl _) _⟩
    exact heap_alloc_new w.drew _

set_option maxRecDepth 100000 in
set_option maxHeartbeats 4000000 in
theorem concat2_any (d b0 o0 n0 c0 b1 o1 n1 c1 : Nat) (S0 S1 : List Clu) (w : World) (h0 : w.cell? ⟨d, 0, none⟩ = some (.slice (some ⟨b0, o0, none⟩) n0 c0)) (h1 : w.cell? ⟨d, 1, none⟩ = some (.slice (some ⟨b1, o1, none⟩) n1 c1)) (r0 : Rd w 3 (some ⟨b0, o0, none⟩) n0 (boxCells S0)) (r1 : Rd w 3 (some ⟨b1, o1, none⟩) n1 (boxCells S1)) (hn0 : n0 ≤ 100) (hn1 : n1 ≤ 100) :
    Calls Try.prog 108 #[.slice (some ⟨d, 0, none⟩) 2 2] w fun e w' => ∃ A c, e = .returned (.slice A (n0 + n1) c) ∧ w'.ownsRow w.heap.size 25 3 (.slice A (n0 + n1) c) (n0 + n1) (boxCells (S0 ++ S1)) ∧ Below w.heap.size w w' := by
  obtain ⟨i0, hi, hz0, hz1, hz2⟩ := info_parts clue_info
  have hd := World.block_lt_of_cell? w _ h0
  simp only at hd
  have R0 := Lib.hid r0
  have R1 := Lib.hid r1
  have HG := Lib.hid (fun wx => grow_nil (n0 + n1) wx (by omega))
  clear r0 r1
  go_enter Try.func108, Try.ntmps108
  go_wp2
  go_loop [3, 11] (fun s i => (i = .int .i64 0 ∧ s = .int .i64 0) ∨ (i = .int .i64 1 ∧ s = .int .i64 (n0 : Int)) ∨ (i = .int .i64 2 ∧ s = .int .i64 ((n0 + n1 : Nat) : Int))) (fun _ i => 2 - (intOf i).toNat)
  case atStart => exact .inl ⟨rfl, rfl⟩
  case round =>
    rcases hrel with ⟨rfl, rfl⟩ | ⟨rfl, rfl⟩ | ⟨rfl, rfl⟩
    · go_wp2
      go_round
      case rel => exact .inr (.inl ⟨rfl, rfl⟩)
      case measure => simp [intOf]
    · go_wp2
      go_round
      case rel => exact .inr (.inr ⟨rfl, by go_num⟩)
      case measure => simp [intOf]
    · go_wp2_with fail
      refine (HG.out _).mono ?_; rintro e w1 ⟨A, c, rfl, ho, hb⟩
      have HO := Lib.hid ho
      have HB := Lib.hid hb
      clear ho hb
      go_wp2
      go_loopw [6, 27] (fun v i wr => ∃ (m : Nat) (A' : Option Addr) (c' : Nat) (X : List Clu), v = .slice A' m c' ∧ wr.ownsRow w.heap.size 25 3 (.slice A' m c') m (boxCells X) ∧ Below w.heap.size w wr ∧ ((i = .int .i64 0 ∧ 0 = m ∧ Hid (X = [])) ∨ (i = .int .i64 1 ∧ n0 = m ∧ Hid (X = S0)) ∨ (i = .int .i64 2 ∧ n0 + n1 = m ∧ Hid (X = S0 ++ S1)))) (fun _ i _ => 2 - (intOf i).toNat)
      case atStart => exact ⟨0, A, c, [], rfl, HO.out, HB.out, .inl ⟨rfl, rfl, rfl⟩⟩
      case round =>
        obtain ⟨m, A', c', X, rfl, hown, hB, hcase⟩ := hrel
        have sB := hB.size
        have k0 := (hB.cell (p := ⟨d, 0, none⟩) hd).trans h0
        have k1 := (hB.cell (p := ⟨d, 1, none⟩) hd).trans h1
        rcases hcase with ⟨rfl, rfl, hX⟩ | ⟨rfl, rfl, hX⟩ | ⟨rfl, rfl, hX⟩
        · have hown1 := hown
          have HOW := Lib.hid hown
          have HBB := Lib.hid hB
          have hbig : 0 + n0 ≤ maxLen := by simp only [maxLen]; omega
          have HNW : Hid (∀ j u, (boxCells S0)[j]? = some u → wr.cell? ((⟨b0, o0, none⟩ : Addr).add j) = some u) := fun j u hj => by
            rw [Addr.add_lit]
            have hr' := (R0.out.later HBB.out (Nat.le_refl _))
            by_cases h0 : 0 < n0
            · obtain ⟨b, o, e, _, hc⟩ := hr'.2 h0
              cases e
              exact hc j u hj
            · have hl := hr'.1
              have hj2 := (List.getElem?_eq_some_iff.1 hj).1
              omega
          have HLN : Hid ((boxCells S0).length = n0 * 3) := R0.out.1
          clear hown hown1 hB
          go_wp2_with (at_builtin; refine wpList_append_own _ rfl (.tmp 31) (.tmp 32) 33 rfl w.heap.size 25 i0 (bx3 0 0 0) 3 24 Try.underlying33 hi hz0 hz1 hz2 rfl (by decide) _ _ _ rfl HOW.out ⟨b0, o0, none⟩ n0 c0 (boxCells S0) rfl HLN.out HNW.out (box_oneCell S0) hbig (by omega) sB ?_)
          intro v' w2 hown' hgrow _
          (try rw [Nat.zero_add] at hown')
          obtain ⟨A2, c2', rfl⟩ := own_slice hown'
          have hb2 := gb_new (Nat.le_refl _) HBB.out hgrow (fun g hg => (HOW.out.lt g hg).1)
          clear hgrow HOW HNW
          go_wp2
          go_roundw
          case rel => exact ⟨n0, A2, c2', X ++ S0, rfl, by rw [boxCells_append]; exact hown', hb2, .inr (.inl ⟨rfl, rfl, by simp only [Hid]; rw [hX.out]; rfl⟩)⟩
          case measure => simp [intOf]
        · have hown1 := hown
          have HOW := Lib.hid hown
          have HBB := Lib.hid hB
          have hbig : n0 + n1 ≤ maxLen := by simp only [maxLen]; omega
          have HNW : Hid (∀ j u, (boxCells S1)[j]? = some u → wr.cell? ((⟨b1, o1, none⟩ : Addr).add j) = some u) := fun j u hj => by
            rw [Addr.add_lit]
            have hr' := (R1.out.later HBB.out (Nat.le_refl _))
            by_cases h0 : 0 < n1
            · obtain ⟨b, o, e, _, hc⟩ := hr'.2 h0
              cases e
              exact hc j u hj
            · have hl := hr'.1
              have hj2 := (List.getElem?_eq_some_iff.1 hj).1
              omega
          have HLN : Hid ((boxCells S1).length = n1 * 3) := R1.out.1
          clear hown hown1 hB
          go_wp2_with (at_builtin; refine wpList_append_own _ rfl (.tmp 31) (.tmp 32) 33 rfl w.heap.size 25 i0 (bx3 0 0 0) 3 24 Try.underlying33 hi hz0 hz1 hz2 rfl (by decide) _ _ _ rfl HOW.out ⟨b1, o1, none⟩ n1 c1 (boxCells S1) rfl HLN.out HNW.out (box_oneCell S1) hbig (by omega) sB ?_)
          intro v' w2 hown' hgrow _
          (try rw [Nat.zero_add] at hown')
          obtain ⟨A2, c2', rfl⟩ := own_slice hown'
          have hb2 := gb_new (Nat.le_refl _) HBB.out hgrow (fun g hg => (HOW.out.lt g hg).1)
          clear hgrow HOW HNW
          go_wp2
          go_roundw
          case rel => exact ⟨n0 + n1, A2, c2', X ++ S1, rfl, by rw [boxCells_append]; exact hown', hb2, .inr (.inr ⟨rfl, rfl, by simp only [Hid]; rw [hX.out]⟩)⟩
          case measure => simp [intOf]
        · have HX := Lib.hid hX.out
          go_wp2
          go_ret
          exact ⟨A', c', rfl, by rw [← HX.out]; exact hown, hB⟩

theorem boxCells_takeG : ∀ (S : List Clu) (k : Nat), boxCells (S.take k) = (boxCells S).take (k * 3)
  | [], k => by simp [boxCells]
  | p :: r, 0 => by simp [boxCells]
  | p :: r, k + 1 => by
    have h := boxCells_takeG r k
    rw [show (k + 1) * 3 = k * 3 + 1 + 1 + 1 by omega]
    simp [boxCells, h]
theorem boxCells_dropG : ∀ (S : List Clu) (k : Nat), boxCells (S.drop k) = (boxCells S).drop (k * 3)
  | [], k => by simp [boxCells]
  | p :: r, 0 => by simp
  | p :: r, k + 1 => by
    have h := boxCells_dropG r k
    rw [show (k + 1) * 3 = k * 3 + 1 + 1 + 1 by omega]
    simp [boxCells, h]
theorem rd_takeG {w : World} {A : Option Addr} {n k : Nat} {S : List Clu} (h : Rd w 3 A n (boxCells S)) (hk : k ≤ n) : Rd w 3 A k (boxCells (S.take k)) := by
  have hl := h.1
  refine ⟨by rw [length_boxCells] at hl ⊢; rw [List.length_take]; omega, fun h0 => ?_⟩
  obtain ⟨b, o, rfl, hlt, hc⟩ := h.2 (by omega)
  refine ⟨b, o, rfl, hlt, fun j u hj => hc j u ?_⟩
  rw [boxCells_takeG, List.getElem?_take] at hj
  split at hj
  · exact hj
  · cases hj
theorem rd_dropG {w : World} {b o n k : Nat} {S : List Clu} (h : Rd w 3 (some ⟨b, o, none⟩) n (boxCells S)) (hk : k ≤ n) : Rd w 3 (some ⟨b, o + k * 3, none⟩) (n - k) (boxCells (S.drop k)) := by
  have hl := h.1
  refine ⟨by rw [length_boxCells] at hl ⊢; rw [List.length_drop]; omega, fun h0 => ?_⟩
  obtain ⟨b', o', e, hlt, hc⟩ := h.2 (by omega)
  cases e
  refine ⟨b, o + k * 3, rfl, hlt, fun j u hj => ?_⟩
  rw [boxCells_dropG, List.getElem?_drop] at hj
  rw [Nat.add_assoc]
  exact hc _ _ hj
theorem own_capG {w : World} {B e z n m b c : Nat} {xs : List Value} (h : w.ownsRow B e z (.slice (some ⟨b, 0, none⟩) n c) m xs) : m = n → n ≤ c ∧ c ≤ maxLen := by
  intro e1
  subst e1
  rcases h.2 with ⟨h0, _⟩ | ⟨g, cap, cur, hv, _, _, h1, h2, _, _⟩
  · cases h0
  · cases hv
    exact ⟨h1, h2⟩
/-- clues without one -/
def woL (S : List Clu) (k : Nat) : List Clu := S.take k ++ S.drop (k + 1)
theorem length_woL {S : List Clu} {k : Nat} (hk : k < S.length) : (woL S k).length = S.length - 1 := by
  unfold woL
  rw [List.length_append, List.length_take, List.length_drop]
  omega
theorem mem_woL {S : List Clu} {k : Nat} {q : Clu} (h : q ∈ woL S k) : q ∈ S := by
  unfold woL at h
  rcases List.mem_append.1 h with h | h
  · exact List.mem_of_mem_take h
  · exact List.mem_of_mem_drop h

set_option maxRecDepth 100000 in
set_option maxHeartbeats 4000000 in
theorem withoutClue_any (b o n c k : Nat) (S : List Clu) (w : World) (hr : Rd w 3 (some ⟨b, o, none⟩) n (boxCells S)) (hk : k < n) (hn : n ≤ 100) (hnc : n ≤ c) (hc : c ≤ 9223372036854775807) :
    Calls Try.prog 80 #[.slice (some ⟨b, o, none⟩) n c, .int .i64 (k : Int)] w fun e w' => ∃ A c', e = .returned (.slice A (n - 1) c') ∧ w'.ownsRow w.heap.size 25 3 (.slice A (n - 1) c') (n - 1) (boxCells (woL S k)) ∧ Below w.heap.size w w' := by
  have HR := Lib.hid hr
  have hkc : k ≤ c := by omega
  have hk1 : k + 1 ≤ n := by omega
  have hk1c : k + 1 ≤ c := by omega
  have hkn : k ≤ n := by omega
  have HE : Hid (k + (n - (k + 1)) = n - 1) := by simp only [Hid]; omega
  have hgw : IntKind.i64.wrap ((k : Int) + 1) = (k : Int) + 1 := IntWalk.i64_in _ (by omega)
  have htn : ((k : Int) + 1).toNat = k + 1 := by omega
  have hle : (0 : Int) ≤ (k : Int) + 1 ∧ (k : Int) + 1 ≤ (n : Int) := by omega
  have hba : Below w.heap.size w ((w.alloc (.cells #[.slice (some ⟨b, o, none⟩) k k, .slice (some ⟨b, o + (k + 1) * 3, none⟩) (n - (k + 1)) (c - (k + 1))] 33)).drew) := ((Below.refl _ _).alloc (Nat.le_refl _) _).drew
  by_cases hcc : c = k + 1
  · obtain rfl : n = k + 1 := by omega
    subst hcc
    clear hba hle hnc hk1 hk1c HE
    have hba : Below w.heap.size w ((w.alloc (.cells #[.slice (some ⟨b, o, none⟩) k k, .slice (some ⟨b, o, none⟩) 0 0] 33)).drew) := ((Below.refl _ _).alloc (Nat.le_refl _) _).drew
    have hkk : (k : Int) ≤ (k : Int) + 1 := by omega
    have hle : (0 : Int) ≤ (k : Int) + 1 := by omega
    clear hr
    go_enter Try.func80, Try.ntmps80
    go_wp2
    refine wp_region_held_drew (S := (fun _ => True)) (by kernel_rfl) ?_ (fun hHeld => ?_)
    · ((try dsimp only); (repeat' apply And.intro); all_goals ((repeat (first | (with_reducible refine cell_drew ?_) | (with_reducible refine cell_drewN _ ?_) | ((with_reducible refine cell_alloc ?_ ?_); · first | omega | (simp; done) | (simp; omega) | assumption) | ((with_reducible refine cell_set ?_ ?_); · first | (intro e; injection e; omega) | (intro e; simp at e; done) | (intro e; simp at e; omega)))); first | assumption | (simp; done)))
    refine reg_on (i := 0) (d := 5) (v := ?rv1) rfl rfl (by kernel_rfl) (by kernel_rfl) (by kernel_rfl) (fun _ _ _ h => h) (by rfl) ?ry1 (by assumption) ?rr1
    case ry1 => (intro wz hSw; (try dsimp only at hSw); go_simp; try with_reducible rfl)
    (try simp only [Act.put, List.setIfInBounds_toArray, List.set_cons_zero, List.set_cons_succ])
    refine reg_on (i := 1) (d := 6) (v := ?rv2) rfl rfl (by kernel_rfl) (by kernel_rfl) (by kernel_rfl) (fun _ _ _ h => h) (by rfl) ?ry2 (by assumption) ?rr2
    case ry2 => (intro wz hSw; (try dsimp only at hSw); go_simp; try with_reducible rfl)
    (try simp only [Act.put, List.setIfInBounds_toArray, List.set_cons_zero, List.set_cons_succ])
    refine reg_on (i := 2) (d := 7) (v := ?rv3) rfl rfl (by kernel_rfl) (by kernel_rfl) (by kernel_rfl) (fun _ _ _ h => h) (by rfl) ?ry3 (by assumption) ?rr3
    case ry3 => (intro wz hSw; (try dsimp only at hSw); go_simp; try with_reducible rfl)
    (try simp only [Act.put, List.setIfInBounds_toArray, List.set_cons_zero, List.set_cons_succ])
    refine reg_on (i := 3) (d := 8) (v := ?rv4) rfl rfl (by kernel_rfl) (by kernel_rfl) (by kernel_rfl) (fun _ _ _ h => h) (by rfl) ?ry4 (by assumption) ?rr4
    case ry4 => (intro wz hSw; (try dsimp only at hSw); go_simp; try with_reducible rfl)
    (try simp only [Act.put, List.setIfInBounds_toArray, List.set_cons_zero, List.set_cons_succ])
    refine reg_on (i := 4) (d := 9) (v := ?rv5) rfl rfl (by kernel_rfl) (by kernel_rfl) (by kernel_rfl) (fun _ _ _ h => h) (by rfl) ?ry5 (by assumption) ?rr5
    case ry5 => (intro wz hSw; (try dsimp only at hSw); go_simp; try with_reducible rfl)
    (try simp only [Act.put, List.setIfInBounds_toArray, List.set_cons_zero, List.set_cons_succ])
    refine reg_on (i := 5) (d := 10) (v := ?rv6) rfl rfl (by kernel_rfl) (by kernel_rfl) (by kernel_rfl) (fun _ _ _ h => h) (by rfl) ?ry6 (by assumption) ?rr6
    case ry6 => (intro wz hSw; (try dsimp only at hSw); go_simp; try with_reducible rfl)
    (try simp only [Act.put, List.setIfInBounds_toArray, List.set_cons_zero, List.set_cons_succ])
    refine reg_on (i := 6) (d := 11) (v := ?rv7) rfl rfl (by kernel_rfl) (by kernel_rfl) (by kernel_rfl) (fun _ _ _ h => h) (by rfl) ?ry7 (by assumption) ?rr7
    case ry7 => (intro wz hSw; (try dsimp only at hSw); go_simp; try with_reducible rfl)
    (try simp only [Act.put, List.setIfInBounds_toArray, List.set_cons_zero, List.set_cons_succ])
    refine reg_on (i := 7) (d := 12) (v := ?rv8) rfl rfl (by kernel_rfl) (by kernel_rfl) (by kernel_rfl) (fun _ _ _ h => h) (by rfl) ?ry8 (by assumption) ?rr8
    case ry8 => (intro wz hSw; (try dsimp only at hSw); go_simp; try with_reducible rfl)
    (try simp only [Act.put, List.setIfInBounds_toArray, List.set_cons_zero, List.set_cons_succ])
    refine wpAnyH_ready (rs := [8]) (by kernel_rfl) (by simp) ?_
    refine AllReadyH.cons rfl (fun K hK => ?_) AllReadyH.nil
    go_simp
    refine hK.out _ _ ?_ (fun hHeld => ?_)
    · ((try dsimp only); (repeat' apply And.intro); all_goals ((repeat (first | (with_reducible refine cell_drew ?_) | (with_reducible refine cell_drewN _ ?_) | ((with_reducible refine cell_alloc ?_ ?_); · first | omega | (simp; done) | (simp; omega) | assumption) | ((with_reducible refine cell_set ?_ ?_); · first | (intro e; injection e; omega) | (intro e; simp at e; done) | (intro e; simp at e; omega)))); first | assumption | (simp; done)))
    clear hK K
    (try simp only [Act.put, List.setIfInBounds_toArray, List.set_cons_zero, List.set_cons_succ])
    refine wpAnyH_ready (rs := [9]) (by kernel_rfl) (by simp) ?_
    refine AllReadyH.cons rfl (fun K hK => ?_) AllReadyH.nil
    go_simp
    go_at_call 108; refine (concat2_any w.heap.size b o k k b o 0 0 (S.take k) (S.drop (k + 1)) _ (by simp [go_sem]) (by simp [go_sem]) (rd_takeG (HR.out.later hba (Nat.le_refl _)) hkn) (⟨by have := HR.out.1; rw [length_boxCells] at this ⊢; rw [List.length_drop]; omega, fun h => absurd h (by omega)⟩) (by omega) (by omega)).mono ?_; rintro e w3 ⟨A3, c3, rfl, ho3, hb3⟩
    refine hK.out _ _ ?_ (fun hHeld => ?_)
    · ((try dsimp only); (repeat' apply And.intro); all_goals ((repeat (first | (with_reducible refine cell_drew ?_) | (with_reducible refine cell_drewN _ ?_) | ((with_reducible refine cell_alloc ?_ ?_); · first | omega | (simp; done) | (simp; omega) | assumption) | ((with_reducible refine cell_set ?_ ?_); · first | (intro e; injection e; omega) | (intro e; simp at e; done) | (intro e; simp at e; omega)))); first | assumption | (simp; done)))
    clear hK K
    (try simp only [Act.put, List.setIfInBounds_toArray, List.set_cons_zero, List.set_cons_succ])
    refine reg_on (i := 10) (d := 4) (v := ?rv11) rfl rfl (by kernel_rfl) (by kernel_rfl) (by kernel_rfl) (fun _ _ _ h => h) (by rfl) ?ry11 (by assumption) ?rr11
    case ry11 => (intro wz hSw; (try dsimp only at hSw); go_simp; try with_reducible rfl)
    (try simp only [Act.put, List.setIfInBounds_toArray, List.set_cons_zero, List.set_cons_succ])
    refine wpAnyH_done (by kernel_rfl) ?_ _
    have hbF : Below w.heap.size w w3 := hba.trans (hb3.mono hba.size)
    have hoF := own_base ho3 hba.size
    clear ho3 hb3
    go_wp2
    go_ret
    exact ⟨A3, c3, rfl, hoF, hbF⟩
  · clear hr
    go_enter Try.func80, Try.ntmps80
    go_wp2
    refine wp_region_held_drew (S := (fun _ => True)) (by kernel_rfl) ?_ (fun hHeld => ?_)
    · ((try dsimp only); (repeat' apply And.intro); all_goals ((repeat (first | (with_reducible refine cell_drew ?_) | (with_reducible refine cell_drewN _ ?_) | ((with_reducible refine cell_alloc ?_ ?_); · first | omega | (simp; done) | (simp; omega) | assumption) | ((with_reducible refine cell_set ?_ ?_); · first | (intro e; injection e; omega) | (intro e; simp at e; done) | (intro e; simp at e; omega)))); first | assumption | (simp; done)))
    refine reg_on (i := 0) (d := 5) (v := ?rv12) rfl rfl (by kernel_rfl) (by kernel_rfl) (by kernel_rfl) (fun _ _ _ h => h) (by rfl) ?ry12 (by assumption) ?rr12
    case ry12 => (intro wz hSw; (try dsimp only at hSw); go_simp; try with_reducible rfl)
    (try simp only [Act.put, List.setIfInBounds_toArray, List.set_cons_zero, List.set_cons_succ])
    refine reg_on (i := 1) (d := 6) (v := ?rv13) rfl rfl (by kernel_rfl) (by kernel_rfl) (by kernel_rfl) (fun _ _ _ h => h) (by rfl) ?ry13 (by assumption) ?rr13
    case ry13 => (intro wz hSw; (try dsimp only at hSw); go_simp; try with_reducible rfl)
    (try simp only [Act.put, List.setIfInBounds_toArray, List.set_cons_zero, List.set_cons_succ])
    refine reg_on (i := 2) (d := 7) (v := ?rv14) rfl rfl (by kernel_rfl) (by kernel_rfl) (by kernel_rfl) (fun _ _ _ h => h) (by rfl) ?ry14 (by assumption) ?rr14
    case ry14 => (intro wz hSw; (try dsimp only at hSw); go_simp; try with_reducible rfl)
    (try simp only [Act.put, List.setIfInBounds_toArray, List.set_cons_zero, List.set_cons_succ])
    refine reg_on (i := 3) (d := 8) (v := ?rv15) rfl rfl (by kernel_rfl) (by kernel_rfl) (by kernel_rfl) (fun _ _ _ h => h) (by rfl) ?ry15 (by assumption) ?rr15
    case ry15 => (intro wz hSw; (try dsimp only at hSw); go_simp; try with_reducible rfl)
    (try simp only [Act.put, List.setIfInBounds_toArray, List.set_cons_zero, List.set_cons_succ])
    refine reg_on (i := 4) (d := 9) (v := ?rv16) rfl rfl (by kernel_rfl) (by kernel_rfl) (by kernel_rfl) (fun _ _ _ h => h) (by rfl) ?ry16 (by assumption) ?rr16
    case ry16 => (intro wz hSw; (try dsimp only at hSw); go_simp; try with_reducible rfl)
    (try simp only [Act.put, List.setIfInBounds_toArray, List.set_cons_zero, List.set_cons_succ])
    refine reg_on (i := 5) (d := 10) (v := ?rv17) rfl rfl (by kernel_rfl) (by kernel_rfl) (by kernel_rfl) (fun _ _ _ h => h) (by rfl) ?ry17 (by assumption) ?rr17
    case ry17 => (intro wz hSw; (try dsimp only at hSw); go_simp; try with_reducible rfl)
    (try simp only [Act.put, List.setIfInBounds_toArray, List.set_cons_zero, List.set_cons_succ])
    refine reg_on (i := 6) (d := 11) (v := ?rv18) rfl rfl (by kernel_rfl) (by kernel_rfl) (by kernel_rfl) (fun _ _ _ h => h) (by rfl) ?ry18 (by assumption) ?rr18
    case ry18 => (intro wz hSw; (try dsimp only at hSw); go_simp; try with_reducible rfl)
    (try simp only [Act.put, List.setIfInBounds_toArray, List.set_cons_zero, List.set_cons_succ])
    refine reg_on (i := 7) (d := 12) (v := ?rv19) rfl rfl (by kernel_rfl) (by kernel_rfl) (by kernel_rfl) (fun _ _ _ h => h) (by rfl) ?ry19 (by assumption) ?rr19
    case ry19 => (intro wz hSw; (try dsimp only at hSw); go_simp; try with_reducible rfl)
    (try simp only [Act.put, List.setIfInBounds_toArray, List.set_cons_zero, List.set_cons_succ])
    refine wpAnyH_ready (rs := [8]) (by kernel_rfl) (by simp) ?_
    refine AllReadyH.cons rfl (fun K hK => ?_) AllReadyH.nil
    go_simp
    refine hK.out _ _ ?_ (fun hHeld => ?_)
    · ((try dsimp only); (repeat' apply And.intro); all_goals ((repeat (first | (with_reducible refine cell_drew ?_) | (with_reducible refine cell_drewN _ ?_) | ((with_reducible refine cell_alloc ?_ ?_); · first | omega | (simp; done) | (simp; omega) | assumption) | ((with_reducible refine cell_set ?_ ?_); · first | (intro e; injection e; omega) | (intro e; simp at e; done) | (intro e; simp at e; omega)))); first | assumption | (simp; done)))
    clear hK K
    (try simp only [Act.put, List.setIfInBounds_toArray, List.set_cons_zero, List.set_cons_succ])
    refine wpAnyH_ready (rs := [9]) (by kernel_rfl) (by simp) ?_
    refine AllReadyH.cons rfl (fun K hK => ?_) AllReadyH.nil
    go_simp
    go_at_call 108; refine (concat2_any w.heap.size b o k k b (o + (k + 1) * 3) (n - (k + 1)) (c - (k + 1)) (S.take k) (S.drop (k + 1)) _ (by simp [go_sem]) (by simp [go_sem]) (rd_takeG (HR.out.later hba (Nat.le_refl _)) hkn) (rd_dropG (HR.out.later hba (Nat.le_refl _)) hk1) (by omega) (by omega)).mono ?_; rintro e w3 ⟨A3, c3, rfl, ho3, hb3⟩
    refine hK.out _ _ ?_ (fun hHeld => ?_)
    · ((try dsimp only); (repeat' apply And.intro); all_goals ((repeat (first | (with_reducible refine cell_drew ?_) | (with_reducible refine cell_drewN _ ?_) | ((with_reducible refine cell_alloc ?_ ?_); · first | omega | (simp; done) | (simp; omega) | assumption) | ((with_reducible refine cell_set ?_ ?_); · first | (intro e; injection e; omega) | (intro e; simp at e; done) | (intro e; simp at e; omega)))); first | assumption | (simp; done)))
    clear hK K
    (try simp only [Act.put, List.setIfInBounds_toArray, List.set_cons_zero, List.set_cons_succ])
    refine reg_on (i := 10) (d := 4) (v := ?rv22) rfl rfl (by kernel_rfl) (by kernel_rfl) (by kernel_rfl) (fun _ _ _ h => h) (by rfl) ?ry22 (by assumption) ?rr22
    case ry22 => (intro wz hSw; (try dsimp only at hSw); go_simp; try with_reducible rfl)
    (try simp only [Act.put, List.setIfInBounds_toArray, List.set_cons_zero, List.set_cons_succ])
    refine wpAnyH_done (by kernel_rfl) ?_ _
    rw [HE.out] at ho3 ⊢
    have hbF : Below w.heap.size w w3 := hba.trans (hb3.mono hba.size)
    have hoF := own_base ho3 hba.size
    clear ho3 hb3
    go_wp2
    go_ret
    exact ⟨A3, c3, rfl, hoF, hbF⟩
theorem step_append_ownG {P : Program} {ops : Array Oper} {o : Oper} {a : Act} {w : World} {K : Act → World → Prop} {Q : Exit → Act → World → Prop} {E : Prop} (hgd : o.guard = none) (s x : Operand) (t : TypeId)
    (ho : o.op = .call { callee := .builtin .append, args := #[s, x], argTypes := #[t, t] })
    (base : Nat) (e : TypeId) (i : TypeInfo) (z : Value) (size bytes : Nat) (ht : P.underlying t = some (.slice e)) (hi : P.info? e = some i) (hz : i.zero = some z)
    (hsize : i.size = size) (hby : i.bytes = bytes) (hzs : z.cells.size = size) (hsz : 0 < size)
    (v : Value) (n : Nat) (xs : List Value) (hs : a.eval s = v) (hown : w.ownsRow base e size v n xs)
    (ad : Addr) (m c : Nat) (news : List Value) (hx : a.eval x = .slice (some ad) m c) (hl : news.length = m * size) (hnews : ∀ j u, news[j]? = some u → w.cell? (ad.add j) = some u) (h1 : ∀ u ∈ news, u.oneCell' = true)
    (h63 : n + m ≤ maxLen) (hbytes : (n + m) * bytes ≤ 140737488355328) (hbase : base ≤ w.heap.size)
    (h : ∀ v' w', w'.ownsRow base e size v' (n + m) (xs ++ news) → w.grownBy w' v.ownBlock → (v' = .slice none 0 0 ↔ v = .slice none 0 0 ∧ m = 0) → K (a.put o.dst v') w') :
    if Region.wanted o (yielded ops a.tmps) = true then Oper.wp P o a w K Q else E := by
  have hw : Region.wanted o (yielded ops a.tmps) = true := by simp [Region.wanted, hgd]
  rw [if_pos hw]
  exact wp_append_own w s x t ho base e i z size bytes ht hi hz hsize hby hzs hsz v n xs hs hown ad m c news hx hl hnews h1 h63 hbytes hbase h

theorem rd_newsG {w : World} {b o n : Nat} {S : List Clu} (h : Rd w 3 (some ⟨b, o, none⟩) n (boxCells S)) : ∀ j u, (boxCells S)[j]? = some u → w.cell? ((⟨b, o, none⟩ : Addr).add j) = some u := by
  intro j u hj
  rw [Addr.add_lit]
  by_cases h0 : 0 < n
  · obtain ⟨b', o', e, _, hc⟩ := h.2 h0
    cases e
    exact hc j u hj
  · have hl := h.1
    have hj2 := (List.getElem?_eq_some_iff.1 hj).1
    omega

set_option maxRecDepth 100000 in
set_option maxHeartbeats 4000000 in
theorem pzWithout_any (b o n c k : Nat) (S : List Clu) (w : World) (hr : Rd w 3 (some ⟨b, o, none⟩) n (boxCells S)) (hk : k < n) (hn : n ≤ 100) (hnc : n ≤ c) (hc : c ≤ 9223372036854775807) :
    Calls Try.prog 79 #[.slice (some ⟨b, o, none⟩) n c, .int .i64 (k : Int)] w fun e w' => ∃ A c', e = .returned (.slice A (n - 1) c') ∧ w'.ownsRow w.heap.size 25 3 (.slice A (n - 1) c') (n - 1) (boxCells (woL S k)) ∧ Below w.heap.size w w' := by
  obtain ⟨i0, hi, hz0, hz1, hz2⟩ := info_parts clue_info
  have HR := Lib.hid hr
  have hkc : k ≤ c := by omega
  have hk1 : k + 1 ≤ n := by omega
  have hk1c : k + 1 ≤ c := by omega
  have hkn : k ≤ n := by omega
  have HE : Hid (k + (n - (k + 1)) = n - 1) := by simp only [Hid]; omega
  have hlS : S.length = n := by have := hr.1; rw [length_boxCells] at this; omega
  have HR1 := Lib.hid (rd_takeG hr hkn)
  have HL1 := Lib.hid HR1.out.1
  have HL2 : Hid ((boxCells (S.drop (k + 1))).length = (n - (k + 1)) * 3) := by simp only [Hid]; rw [length_boxCells, List.length_drop, hlS]
  have hgw : IntKind.i64.wrap ((k : Int) + 1) = (k : Int) + 1 := IntWalk.i64_in _ (by omega)
  have htn : ((k : Int) + 1).toNat = k + 1 := by omega
  have hba : Below w.heap.size w ((w.alloc (.cells #[] 25)).drew) := ((Below.refl _ _).alloc (Nat.le_refl _) _).drew
  clear hr hlS
  by_cases hcc : c = k + 1
  · obtain rfl : n = k + 1 := by omega
    subst hcc
    have HL2 : Hid ((boxCells (S.drop (k + 1))).length = 0 * 3) := by have h := HL2.out; simpa [Hid] using h
    clear hnc hk1 hk1c HE
    have hkk : (k : Int) ≤ (k : Int) + 1 := by omega
    have hle : (0 : Int) ≤ (k : Int) + 1 := by omega
    go_enter Try.func79, Try.ntmps79
    go_wp2
    refine wp_region_held_drew (S := (fun _ => True)) (by kernel_rfl) ?_ (fun hHeld => ?_)
    · ((try dsimp only); (repeat' apply And.intro); all_goals ((repeat (first | (with_reducible refine cell_drew ?_) | (with_reducible refine cell_drewN _ ?_) | ((with_reducible refine cell_alloc ?_ ?_); · first | omega | (simp; done) | (simp; omega) | assumption) | ((with_reducible refine cell_set ?_ ?_); · first | (intro e; injection e; omega) | (intro e; simp at e; done) | (intro e; simp at e; omega)))); first | assumption | (simp; done)))
    refine reg_on (i := 1) (d := 6) (v := ?rv23) rfl rfl (by kernel_rfl) (by kernel_rfl) (by kernel_rfl) (fun _ _ _ h => h) (by rfl) ?ry23 (by assumption) ?rr23
    case ry23 => (intro wz hSw; (try dsimp only at hSw); go_simp; try with_reducible rfl)
    (try simp only [Act.put, List.setIfInBounds_toArray, List.set_cons_zero, List.set_cons_succ])
    refine reg_on (i := 2) (d := 7) (v := ?rv24) rfl rfl (by kernel_rfl) (by kernel_rfl) (by kernel_rfl) (fun _ _ _ h => h) (by rfl) ?ry24 (by assumption) ?rr24
    case ry24 => (intro wz hSw; (try dsimp only at hSw); go_simp; try with_reducible rfl)
    (try simp only [Act.put, List.setIfInBounds_toArray, List.set_cons_zero, List.set_cons_succ])
    refine reg_on (i := 3) (d := 8) (v := ?rv25) rfl rfl (by kernel_rfl) (by kernel_rfl) (by kernel_rfl) (fun _ _ _ h => h) (by rfl) ?ry25 (by assumption) ?rr25
    case ry25 => (intro wz hSw; (try dsimp only at hSw); go_simp; try with_reducible rfl)
    (try simp only [Act.put, List.setIfInBounds_toArray, List.set_cons_zero, List.set_cons_succ])
    refine reg_on (i := 5) (d := 10) (v := ?rv26) rfl rfl (by kernel_rfl) (by kernel_rfl) (by kernel_rfl) (fun _ _ _ h => h) (by rfl) ?ry26 (by assumption) ?rr26
    case ry26 => (intro wz hSw; (try dsimp only at hSw); go_simp; try with_reducible rfl)
    (try simp only [Act.put, List.setIfInBounds_toArray, List.set_cons_zero, List.set_cons_succ])
    refine reg_on (i := 6) (d := 11) (v := ?rv27) rfl rfl (by kernel_rfl) (by kernel_rfl) (by kernel_rfl) (fun _ _ _ h => h) (by rfl) ?ry27 (by assumption) ?rr27
    case ry27 => (intro wz hSw; (try dsimp only at hSw); go_simp; try with_reducible rfl)
    (try simp only [Act.put, List.setIfInBounds_toArray, List.set_cons_zero, List.set_cons_succ])
    refine reg_on (i := 7) (d := 12) (v := ?rv28) rfl rfl (by kernel_rfl) (by kernel_rfl) (by kernel_rfl) (fun _ _ _ h => h) (by rfl) ?ry28 (by assumption) ?rr28
    case ry28 => (intro wz hSw; (try dsimp only at hSw); go_simp; try with_reducible rfl)
    (try simp only [Act.put, List.setIfInBounds_toArray, List.set_cons_zero, List.set_cons_succ])
    refine reg_on (i := 8) (d := 13) (v := ?rv29) rfl rfl (by kernel_rfl) (by kernel_rfl) (by kernel_rfl) (fun _ _ _ h => h) (by rfl) ?ry29 (by assumption) ?rr29
    case ry29 => (intro wz hSw; (try dsimp only at hSw); go_simp; try with_reducible rfl)
    (try simp only [Act.put, List.setIfInBounds_toArray, List.set_cons_zero, List.set_cons_succ])
    refine wpAnyH_ready (rs := [0]) (by kernel_rfl) (by simp) ?_
    refine AllReadyH.cons rfl (fun K hK => ?_) AllReadyH.nil
    go_simp
    refine hK.out _ _ ?_ (fun hHeld => ?_)
    · ((try dsimp only); (repeat' apply And.intro); all_goals ((repeat (first | (with_reducible refine cell_drew ?_) | (with_reducible refine cell_drewN _ ?_) | ((with_reducible refine cell_alloc ?_ ?_); · first | omega | (simp; done) | (simp; omega) | assumption) | ((with_reducible refine cell_set ?_ ?_); · first | (intro e; injection e; omega) | (intro e; simp at e; done) | (intro e; simp at e; omega)))); first | assumption | (simp; done)))
    clear hK K
    (try simp only [Act.put, List.setIfInBounds_toArray, List.set_cons_zero, List.set_cons_succ])
    refine wpAnyH_ready (rs := [4]) (by kernel_rfl) (by simp) ?_
    refine AllReadyH.cons rfl (fun K hK => ?_) AllReadyH.nil
    refine step_append_ownG rfl (.tmp 5) (.tmp 8) 33 rfl w.heap.size 25 i0 (bx3 0 0 0) 3 24 Try.underlying33 hi hz0 hz1 hz2 rfl (by decide) _ _ _ rfl (World.ownsRow.drew (own_new w 25 3 0 #[] rfl (by omega) (Nat.le_refl _))) ⟨b, o, none⟩ k (k + 1) (boxCells (S.take k)) rfl HL1.out (rd_newsG (HR1.out.later hba (Nat.le_refl _))) (box_oneCell _) (by simp only [maxLen]; omega) (by omega) (by show w.heap.size ≤ (w.alloc _).heap.size; simp) ?_; intro v1 w3 hown1 hgrow1 _; have hb3 := gb_new (Nat.le_refl _) hba hgrow1 (fun g hg => by cases hg; exact Nat.le_refl _); obtain ⟨A3, c3, rfl⟩ := own_slice hown1
    refine hK.out _ _ ?_ (fun hHeld => ?_)
    · ((try dsimp only); (repeat' apply And.intro); all_goals ((repeat (first | (with_reducible refine cell_drew ?_) | (with_reducible refine cell_drewN _ ?_) | ((with_reducible refine cell_alloc ?_ ?_); · first | omega | (simp; done) | (simp; omega) | assumption) | ((with_reducible refine cell_set ?_ ?_); · first | (intro e; injection e; omega) | (intro e; simp at e; done) | (intro e; simp at e; omega)))); first | assumption | (simp; done)))
    clear hK K
    (try simp only [Act.put, List.setIfInBounds_toArray, List.set_cons_zero, List.set_cons_succ])
    refine wpAnyH_ready (rs := [9]) (by kernel_rfl) (by simp) ?_
    refine AllReadyH.cons rfl (fun K hK => ?_) AllReadyH.nil
    refine step_append_ownG rfl (.tmp 9) (.tmp 13) 33 rfl w.heap.size 25 i0 (bx3 0 0 0) 3 24 Try.underlying33 hi hz0 hz1 hz2 rfl (by decide) _ _ _ rfl hown1 ⟨b, o, none⟩ 0 0 (boxCells (S.drop (k + 1))) rfl HL2.out (rd_newsG (⟨HL2.out, fun h => absurd h (by omega)⟩)) (box_oneCell _) (by simp only [maxLen]; omega) (by omega) hb3.size ?_; intro v2 w4 hown2 hgrow2 _; have hb4 := gb_new (Nat.le_refl _) hb3 hgrow2 (fun g hg => (hown1.lt g hg).1); obtain ⟨A4, c4, rfl⟩ := own_slice hown2
    refine hK.out _ _ ?_ (fun hHeld => ?_)
    · ((try dsimp only); (repeat' apply And.intro); all_goals ((repeat (first | (with_reducible refine cell_drew ?_) | (with_reducible refine cell_drewN _ ?_) | ((with_reducible refine cell_alloc ?_ ?_); · first | omega | (simp; done) | (simp; omega) | assumption) | ((with_reducible refine cell_set ?_ ?_); · first | (intro e; injection e; omega) | (intro e; simp at e; done) | (intro e; simp at e; omega)))); first | assumption | (simp; done)))
    clear hK K
    (try simp only [Act.put, List.setIfInBounds_toArray, List.set_cons_zero, List.set_cons_succ])
    refine reg_on (i := 10) (d := 4) (v := ?rv33) rfl rfl (by kernel_rfl) (by kernel_rfl) (by kernel_rfl) (fun _ _ _ h => h) (by rfl) ?ry33 (by assumption) ?rr33
    case ry33 => (intro wz hSw; (try dsimp only at hSw); go_simp; try with_reducible rfl)
    (try simp only [Act.put, List.setIfInBounds_toArray, List.set_cons_zero, List.set_cons_succ])
    refine wpAnyH_done (by kernel_rfl) ?_ _
    have HOF := Lib.hid hown2
    have HBF := Lib.hid hb4
    clear hown1 hown2 hgrow1 hgrow2 hb3 hb4
    go_wp2
    go_ret
    exact ⟨A4, c4, by simp, by rw [woL, boxCells_append]; simpa [boxCells] using HOF.out, HBF.out⟩
  · have hle : (0 : Int) ≤ (k : Int) + 1 ∧ (k : Int) + 1 ≤ (n : Int) := by omega
    go_enter Try.func79, Try.ntmps79
    go_wp2
    refine wp_region_held_drew (S := (fun _ => True)) (by kernel_rfl) ?_ (fun hHeld => ?_)
    · ((try dsimp only); (repeat' apply And.intro); all_goals ((repeat (first | (with_reducible refine cell_drew ?_) | (with_reducible refine cell_drewN _ ?_) | ((with_reducible refine cell_alloc ?_ ?_); · first | omega | (simp; done) | (simp; omega) | assumption) | ((with_reducible refine cell_set ?_ ?_); · first | (intro e; injection e; omega) | (intro e; simp at e; done) | (intro e; simp at e; omega)))); first | assumption | (simp; done)))
    refine reg_on (i := 1) (d := 6) (v := ?rv34) rfl rfl (by kernel_rfl) (by kernel_rfl) (by kernel_rfl) (fun _ _ _ h => h) (by rfl) ?ry34 (by assumption) ?rr34
    case ry34 => (intro wz hSw; (try dsimp only at hSw); go_simp; try with_reducible rfl)
    (try simp only [Act.put, List.setIfInBounds_toArray, List.set_cons_zero, List.set_cons_succ])
    refine reg_on (i := 2) (d := 7) (v := ?rv35) rfl rfl (by kernel_rfl) (by kernel_rfl) (by kernel_rfl) (fun _ _ _ h => h) (by rfl) ?ry35 (by assumption) ?rr35
    case ry35 => (intro wz hSw; (try dsimp only at hSw); go_simp; try with_reducible rfl)
    (try simp only [Act.put, List.setIfInBounds_toArray, List.set_cons_zero, List.set_cons_succ])
    refine reg_on (i := 3) (d := 8) (v := ?rv36) rfl rfl (by kernel_rfl) (by kernel_rfl) (by kernel_rfl) (fun _ _ _ h => h) (by rfl) ?ry36 (by assumption) ?rr36
    case ry36 => (intro wz hSw; (try dsimp only at hSw); go_simp; try with_reducible rfl)
    (try simp only [Act.put, List.setIfInBounds_toArray, List.set_cons_zero, List.set_cons_succ])
    refine reg_on (i := 5) (d := 10) (v := ?rv37) rfl rfl (by kernel_rfl) (by kernel_rfl) (by kernel_rfl) (fun _ _ _ h => h) (by rfl) ?ry37 (by assumption) ?rr37
    case ry37 => (intro wz hSw; (try dsimp only at hSw); go_simp; try with_reducible rfl)
    (try simp only [Act.put, List.setIfInBounds_toArray, List.set_cons_zero, List.set_cons_succ])
    refine reg_on (i := 6) (d := 11) (v := ?rv38) rfl rfl (by kernel_rfl) (by kernel_rfl) (by kernel_rfl) (fun _ _ _ h => h) (by rfl) ?ry38 (by assumption) ?rr38
    case ry38 => (intro wz hSw; (try dsimp only at hSw); go_simp; try with_reducible rfl)
    (try simp only [Act.put, List.setIfInBounds_toArray, List.set_cons_zero, List.set_cons_succ])
    refine reg_on (i := 7) (d := 12) (v := ?rv39) rfl rfl (by kernel_rfl) (by kernel_rfl) (by kernel_rfl) (fun _ _ _ h => h) (by rfl) ?ry39 (by assumption) ?rr39
    case ry39 => (intro wz hSw; (try dsimp only at hSw); go_simp; try with_reducible rfl)
    (try simp only [Act.put, List.setIfInBounds_toArray, List.set_cons_zero, List.set_cons_succ])
    refine reg_on (i := 8) (d := 13) (v := ?rv40) rfl rfl (by kernel_rfl) (by kernel_rfl) (by kernel_rfl) (fun _ _ _ h => h) (by rfl) ?ry40 (by assumption) ?rr40
    case ry40 => (intro wz hSw; (try dsimp only at hSw); go_simp; try with_reducible rfl)
    (try simp only [Act.put, List.setIfInBounds_toArray, List.set_cons_zero, List.set_cons_succ])
    refine wpAnyH_ready (rs := [0]) (by kernel_rfl) (by simp) ?_
    refine AllReadyH.cons rfl (fun K hK => ?_) AllReadyH.nil
    go_simp
    refine hK.out _ _ ?_ (fun hHeld => ?_)
    · ((try dsimp only); (repeat' apply And.intro); all_goals ((repeat (first | (with_reducible refine cell_drew ?_) | (with_reducible refine cell_drewN _ ?_) | ((with_reducible refine cell_alloc ?_ ?_); · first | omega | (simp; done) | (simp; omega) | assumption) | ((with_reducible refine cell_set ?_ ?_); · first | (intro e; injection e; omega) | (intro e; simp at e; done) | (intro e; simp at e; omega)))); first | assumption | (simp; done)))
    clear hK K
    (try simp only [Act.put, List.setIfInBounds_toArray, List.set_cons_zero, List.set_cons_succ])
    refine wpAnyH_ready (rs := [4]) (by kernel_rfl) (by simp) ?_
    refine AllReadyH.cons rfl (fun K hK => ?_) AllReadyH.nil
    refine step_append_ownG rfl (.tmp 5) (.tmp 8) 33 rfl w.heap.size 25 i0 (bx3 0 0 0) 3 24 Try.underlying33 hi hz0 hz1 hz2 rfl (by decide) _ _ _ rfl (World.ownsRow.drew (own_new w 25 3 0 #[] rfl (by omega) (Nat.le_refl _))) ⟨b, o, none⟩ k c (boxCells (S.take k)) rfl HL1.out (rd_newsG (HR1.out.later hba (Nat.le_refl _))) (box_oneCell _) (by simp only [maxLen]; omega) (by omega) (by show w.heap.size ≤ (w.alloc _).heap.size; simp) ?_; intro v1 w3 hown1 hgrow1 _; have hb3 := gb_new (Nat.le_refl _) hba hgrow1 (fun g hg => by cases hg; exact Nat.le_refl _); obtain ⟨A3, c3, rfl⟩ := own_slice hown1
    refine hK.out _ _ ?_ (fun hHeld => ?_)
    · ((try dsimp only); (repeat' apply And.intro); all_goals ((repeat (first | (with_reducible refine cell_drew ?_) | (with_reducible refine cell_drewN _ ?_) | ((with_reducible refine cell_alloc ?_ ?_); · first | omega | (simp; done) | (simp; omega) | assumption) | ((with_reducible refine cell_set ?_ ?_); · first | (intro e; injection e; omega) | (intro e; simp at e; done) | (intro e; simp at e; omega)))); first | assumption | (simp; done)))
    clear hK K
    (try simp only [Act.put, List.setIfInBounds_toArray, List.set_cons_zero, List.set_cons_succ])
    refine wpAnyH_ready (rs := [9]) (by kernel_rfl) (by simp) ?_
    refine AllReadyH.cons rfl (fun K hK => ?_) AllReadyH.nil
    refine step_append_ownG rfl (.tmp 9) (.tmp 13) 33 rfl w.heap.size 25 i0 (bx3 0 0 0) 3 24 Try.underlying33 hi hz0 hz1 hz2 rfl (by decide) _ _ _ rfl hown1 ⟨b, o + (k + 1) * 3, none⟩ (n - (k + 1)) (c - (k + 1)) (boxCells (S.drop (k + 1))) rfl HL2.out (rd_newsG ((rd_dropG HR.out hk1).later hb3 (Nat.le_refl _))) (box_oneCell _) (by simp only [maxLen]; omega) (by omega) hb3.size ?_; intro v2 w4 hown2 hgrow2 _; have hb4 := gb_new (Nat.le_refl _) hb3 hgrow2 (fun g hg => (hown1.lt g hg).1); obtain ⟨A4, c4, rfl⟩ := own_slice hown2
    refine hK.out _ _ ?_ (fun hHeld => ?_)
    · ((try dsimp only); (repeat' apply And.intro); all_goals ((repeat (first | (with_reducible refine cell_drew ?_) | (with_reducible refine cell_drewN _ ?_) | ((with_reducible refine cell_alloc ?_ ?_); · first | omega | (simp; done) | (simp; omega) | assumption) | ((with_reducible refine cell_set ?_ ?_); · first | (intro e; injection e; omega) | (intro e; simp at e; done) | (intro e; simp at e; omega)))); first | assumption | (simp; done)))
    clear hK K
    (try simp only [Act.put, List.setIfInBounds_toArray, List.set_cons_zero, List.set_cons_succ])
    refine reg_on (i := 10) (d := 4) (v := ?rv44) rfl rfl (by kernel_rfl) (by kernel_rfl) (by kernel_rfl) (fun _ _ _ h => h) (by rfl) ?ry44 (by assumption) ?rr44
    case ry44 => (intro wz hSw; (try dsimp only at hSw); go_simp; try with_reducible rfl)
    (try simp only [Act.put, List.setIfInBounds_toArray, List.set_cons_zero, List.set_cons_succ])
    refine wpAnyH_done (by kernel_rfl) ?_ _
    rw [Nat.zero_add, HE.out] at hown2
    rw [HE.out]
    have HOF := Lib.hid hown2
    have HBF := Lib.hid hb4
    clear hown1 hown2 hgrow1 hgrow2 hb3 hb4
    go_wp2
    go_ret
    exact ⟨A4, c4, rfl, by rw [woL, boxCells_append]; simpa [boxCells] using HOF.out, HBF.out⟩
end Go.Proofs.Ytghlgmbekgfmnaa
