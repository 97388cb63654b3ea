/-
  Contract: the model's brChoose.
-/
import Derived.Test.YtjfedmcejeeocaaBin
import Derived.Test.YtjfedmcejeeocaaTab
import Derived.StillTailTactics
namespace Go.Proofs.Ytjfedmcejeeocaa
open Go.RowKit Go.Maps
set_option linter.unusedVariables false

theorem int_infoC : (Try.prog.info? 3).map (fun i => (i.zero, i.size, i.bytes)) = some (some (.int .i64 0), 1, 8) := by kernel_rfl
theorem capS_capN (x : Nat) : capS (x : Int) = ((capN x : Nat) : Int) := by unfold capS capN; (repeat' split) <;> omega
theorem capN_le (x : Nat) : capN x ≤ 1000000000000001 := by unfold capN; split <;> omega
/-- the row: the next line of the triangle behind k, this one up to k -/
def rowC (r k j : Nat) : Nat := if j ≤ k then capN (bin r j) else capN (bin (r + 1) j)
theorem rowC_full (r s j : Nat) (h : j ≤ s) : rowC r s j = capN (bin r j) := if_pos h
theorem rowC_zero (r j : Nat) : rowC r 0 j = capN (bin (r + 1) j) := by
  unfold rowC
  split
  · have : j = 0 := by omega
    subst this
    rw [bin_zero, bin_zero]
  · rfl

set_option maxRecDepth 100000 in
set_option maxHeartbeats 4000000 in
theorem brChoose_any (a s : Nat) (w : World) (ha : a ≤ 300) (hs : s ≤ 300) :
    Calls Try.prog 52 #[.int .i64 a, .int .i64 s] w fun e w' => e = .returned (.int .i64 (capN (bin a s) : Nat)) ∧ Below w.heap.size w w' := by
  obtain ⟨i1, hi1, hy0, hy1, hy2⟩ := info_parts int_infoC
  go_enter Try.func52, Try.ntmps52
  go_wp2_with (at_make; refine wpList_make_full _ rfl (.tmp 8) (.tmp 8) 51 rfl w.heap.size 3 i1 (.int .i64 0) 1 Try.underlying51 hi1 hy0 hy1 .i64 .i64 _ _ (s + 1) rfl rfl (by omega) (by omega) ?b2 ?b3 ?b4 ?_)
  case b2 => rw [hy2]; omega
  case b3 => simp only [maxLen]; omega
  case b4 => first | exact Nat.le_refl _ | simp
  · intro w1 hownR hgrowR
    have hb1 : Below w.heap.size w w1 := (Below.refl _ _).grown hgrowR (Nat.le_refl _) (fun k hk => by cases hk)
    have hlt0 := (hownR.lt w.heap.size rfl).2
    have a0 := hownR.cellAt 0 (by omega)
    have f0 := hownR.frozenAt 0
    rw [toList_madeCells_one] at hownR a0
    rw [List.getElem?_replicate, if_pos (by omega)] at a0
    have st := (hownR.stored 0 (.int .i64 1)).1
    have hL0 : ∀ j, j ≤ s → ((List.replicate (s + 1) (Value.int .i64 0)).set 0 (.int .i64 1))[j]? = some (.int .i64 (capN (bin 0 j) : Nat)) := by
      intro j hj
      cases j with
      | zero => simp [bin_zero, capN]
      | succ j =>
        rw [List.getElem?_set_ne (by omega), List.getElem?_replicate, if_pos (by omega)]
        rfl
    have hb2 := hb1.setCell (p := ⟨w.heap.size, 0, none⟩) (Nat.le_refl _) (.int .i64 1)
    have ST := Lib.hid st
    have HL0 := Lib.hid hL0
    have HB2 := Lib.hid hb2
    clear hownR hgrowR hb1 st hL0 hb2 hlt0
    have x0 : (0 : Int) < (s : Int) + 1 := by omega
    go_wp2
    go_loopw [0] (fun i wr => ∃ (r : Nat) (L : List Value), r ≤ a ∧ i = .int .i64 ((a : Int) - r) ∧ wr.ownsRow w.heap.size 3 1 (.slice (some ⟨w.heap.size, 0, none⟩) (s + 1) (s + 1)) (s + 1) L ∧ (∀ j, j ≤ s → L[j]? = some (.int .i64 (capN (bin r j) : Nat))) ∧ Below w.heap.size w wr) (fun i _ => (intOf i).toNat)
    case atStart => exact ⟨0, _, Nat.zero_le _, by simp, ST.out, HL0.out, HB2.out⟩
    case round =>
      clear ST HL0 HB2 a0 f0
      obtain ⟨r, L, hr, rfl, hown, hL, hB⟩ := hrel
      by_cases hlt : r < a
      · have hpos : (0 : Int) < (a : Int) - r := by omega
        have hposd : decide ((0 : Int) < (a : Int) - r) = true := decide_eq_true hpos
        have hwa : IntKind.i64.wrap ((a : Int) - r - 1) = (a : Int) - ((r + 1 : Nat) : Int) := by rw [IntWalk.i64_in _ (by omega)]; omega
        have HO := Lib.hid hown
        have HL := Lib.hid hL
        have HB := Lib.hid hB
        clear hown hL hB
        go_wp2
        go_loopw [6] (fun i wr => ∃ (k : Nat) (L : List Value), k ≤ s ∧ i = .int .i64 k ∧ wr.ownsRow w.heap.size 3 1 (.slice (some ⟨w.heap.size, 0, none⟩) (s + 1) (s + 1)) (s + 1) L ∧ (∀ j, j ≤ s → L[j]? = some (.int .i64 (rowC r k j : Nat))) ∧ Below w.heap.size w wr) (fun i _ => (intOf i).toNat)
        case atStart => exact ⟨s, L, Nat.le_refl _, rfl, HO.out, fun j hj => by rw [rowC_full r s j hj]; exact HL.out j hj, HB.out⟩
        case round =>
          clear HO HL HB
          obtain ⟨k, L, hk, rfl, hown, hL, hB⟩ := hrel
          by_cases hk0 : 0 < k
          · obtain ⟨m, rfl⟩ : ∃ m, k = m + 1 := ⟨k - 1, by omega⟩
            obtain ⟨q, hq⟩ : ∃ q, q = m + 1 := ⟨_, rfl⟩
            rw [← hq] at hk hL ⊢
            have v1 := hL q hk
            have v2 := hL m (by omega)
            have e1 : rowC r q q = capN (bin r q) := if_pos (Nat.le_refl _)
            have e2 : rowC r q m = capN (bin r m) := if_pos (by omega)
            rw [e1] at v1
            rw [e2] at v2
            have c1 := (hown.cellAt q (by omega)).trans v1
            have c2 := (hown.cellAt m (by omega)).trans v2
            have f1 := hown.frozenAt q
            have l1 := capN_le (bin r q)
            have l2 := capN_le (bin r m)
            have hnew : capS (((capN (bin r q) : Nat) : Int) + ((capN (bin r m) : Nat) : Int)) = ((capN (bin (r + 1) q) : Nat) : Int) := by
              have h1 := capN_add (bin r q) (bin r m)
              have h2 : bin (r + 1) q = bin r m + bin r q := by rw [hq, bin_succ]
              rw [h2, Nat.add_comm (bin r m), ← h1, ← capS_capN (capN (bin r q) + capN (bin r m)), Int.natCast_add]
            have HNEW := Lib.hid hnew
            have hL2 : ∀ j, j ≤ s → (L.set q (.int .i64 (capN (bin (r + 1) q) : Nat)))[j]? = some (.int .i64 (rowC r m j : Nat)) := by
              intro j hj
              have hlen : L.length = (s + 1) * 1 := hown.1
              by_cases e : j = q
              · subst e
                have e3 : rowC r m j = capN (bin (r + 1) j) := if_neg (by omega)
                rw [e3]
                simp [List.getElem?_set]
                omega
              · rw [List.getElem?_set_ne (fun h => e h.symm), hL j hj]
                have e3 : rowC r q j = rowC r m j := by
                  unfold rowC
                  by_cases h : j ≤ m
                  · rw [if_pos (by omega), if_pos h]
                  · rw [if_neg (by omega), if_neg h]
                rw [e3]
            have st := (hown.stored q (.int .i64 (capN (bin (r + 1) q) : Nat))).1
            have HL2 := Lib.hid hL2
            have HB2 := Lib.hid (hB.drew.setCell (p := ⟨w.heap.size, q, none⟩) (Nat.le_refl _) (.int .i64 (capN (bin (r + 1) q) : Nat)))
            have STD : Hid ((wr.drew.setCell ⟨w.heap.size, q, none⟩ (.int .i64 (capN (bin (r + 1) q) : Nat))).ownsRow w.heap.size 3 1 (.slice (some ⟨w.heap.size, 0, none⟩) (s + 1) (s + 1)) (s + 1) (L.set q (.int .i64 (capN (bin (r + 1) q) : Nat)))) := st
            have wsub : IntKind.i64.wrap ((q : Int) - 1) = (m : Int) := by rw [IntWalk.i64_in _ (by omega)]; omega
            have hqp : (0 : Int) < (q : Int) := by omega
            have hqn : 0 < q := by omega
            have y1 : (q : Int) < (s : Int) + 1 := by omega
            have y2 : (m : Int) < (s : Int) + 1 := by omega
            have y3 : (0 : Int) ≤ (m : Int) := by omega
            have y4 : (0 : Int) ≤ (q : Int) := by omega
            have y5 : q < s + 1 := by omega
            have y6 : m < s + 1 := by omega
            have HQ := Lib.hid hq
            have hms : m ≤ s := by omega
            clear hnew hL2 st hL hown hB v1 v2 e1 e2 hq hk0
            generalize capN (bin r q) = b1 at *
            generalize capN (bin r m) = b2 at *
            generalize capN (bin (r + 1) q) = b3 at *
            have wsum : IntKind.i64.wrap ((b1 : Int) + (b2 : Int)) = (b1 : Int) + (b2 : Int) := IntWalk.i64_in _ (by omega)
            go_wp2
            go_still_tail 14, (by kernel_rfl)
            still_call ((leastC_any ((b1 : Int) + (b2 : Int)) _ (by omega) (by omega)).mono fun e w' h => And.intro h.1 h.2.symm)
            repeat still_step
            refine wpStill_nil ?_
            change wpList _ _ _ _ _ wr.drew
            have c1d : wr.drew.cell? ⟨w.heap.size, q, none⟩ = some (.int .i64 b1) := c1
            have f1d : wr.drew.frozen? ⟨w.heap.size, q, none⟩ = false := f1
            clear c1 c2 f1
            rw [HNEW.out]
            generalize wr.drew = wd at *
            go_wp2
            go_roundw
            case rel => exact ⟨m, _, hms, rfl, STD.out, HL2.out, HB2.out⟩
            case measure => have hq' := HQ.out; simp [intOf]; omega
          · have hke : k = 0 := by omega
            subst hke
            have HO := Lib.hid hown
            have hL2 : ∀ j, j ≤ s → L[j]? = some (.int .i64 (capN (bin (r + 1) j) : Nat)) := fun j hj => by rw [hL j hj, rowC_zero]
            have HL := Lib.hid hL2
            have HB := Lib.hid hB
            clear hown hL hB hL2
            go_wp2
            go_roundw
            case rel => exact ⟨r + 1, L, by omega, by go_num, HO.out, HL.out, HB.out⟩
            case measure => simp [intOf]; omega
      · have hre : r = a := by omega
        subst hre
        have c1 := (hown.cellAt s (by omega)).trans (hL s (Nat.le_refl _))
        have y1 : (s : Int) < (s : Int) + 1 := by omega
        have y2 : (0 : Int) ≤ (s : Int) := by omega
        have HB := Lib.hid hB
        clear hown hL hB
        go_wp2
        go_ret
        exact ⟨rfl, HB.out⟩

end Go.Proofs.Ytjfedmcejeeocaa
