/-
  Contracts: FirstStack, MostStacked, HeaviestStack, CountStacks of the program. Conditions: none.
-/
import Derived.Test.YtkijcpbjjbhnhabStkD
namespace Go.Proofs.Ytkijcpbjjbhnhab
open Go.RowKit
set_option linter.unusedVariables false
set_option linter.unusedSimpArgs false

def fsR (S : List Sb) : List Int := if slB S then fl [] (allD S) else []
theorem fsR_no {S : List Sb} (h : slB S = false) : fsR S = [] := by simp [fsR, h]
theorem fsR_yes {S : List Sb} (h : slB S = true) : fsR S = fl [] (allD S) := by simp [fsR, h]
def hvR (S : List Sb) : Int := if slB S then hv S 0 (allD S) else 0
def cnR (S : List Sb) : Int := if slB S then ((allD S).length : Int) else 0
def msR (S : List Sb) : Int := ((fsR S).length : Int)
theorem fl_take {L : List (List Int)} {k : Nat} (h : k < L.length) : fl [] (L.take (k + 1)) = if (fl [] (L.take k)).length < (rowL L k).length then rowL L k else fl [] (L.take k) := by
  have e : rowL L k = L[k] := by unfold rowL; rw [List.getD_eq_getElem?_getD, List.getElem?_eq_getElem h]; rfl
  rw [List.take_succ_eq_append_getElem h, fl_append, e]
  rfl
theorem hv_take {S : List Sb} {L : List (List Int)} {k : Nat} (h : k < L.length) : hv S 0 (L.take (k + 1)) = max (hv S 0 (L.take k)) (wsum S (rowL L k)) := by
  have e : rowL L k = L[k] := by unfold rowL; rw [List.getD_eq_getElem?_getD, List.getElem?_eq_getElem h]; rfl
  rw [List.take_succ_eq_append_getElem h, hv_append, e]
  rfl
theorem stkD_stk {S : List Sb} : ∀ (f : Nat) (s : List Int), stk S s = true → ∀ t ∈ stkD S f s, stk S t = true := by
  intro f
  induction f with
  | zero => intro s hs t ht; simp [stkD] at ht; subst ht; exact hs
  | succ f ih =>
    intro s hs t ht
    rcases List.mem_cons.1 ht with rfl | ht
    · exact hs
    · obtain ⟨k, hk, ht⟩ := List.mem_flatMap.1 ht
      cases e : stk S (s ++ [(k : Int)])
      · rw [e] at ht; simp at ht
      · rw [e] at ht; simp only [if_true] at ht; exact ih _ e t ht
theorem allD_row {S : List Sb} {k : Nat} (h : k < (allD S).length) : stk S (rowL (allD S) k) = true := by
  have e : rowL (allD S) k = (allD S)[k] := by unfold rowL; rw [List.getD_eq_getElem?_getD, List.getElem?_eq_getElem h]; rfl
  rw [e]
  exact stkD_stk _ _ rfl _ (List.getElem_mem h)
theorem fl_mem : ∀ (L : List (List Int)) (a : List Int), fl a L = a ∨ fl a L ∈ L := by
  intro L
  induction L with
  | nil => intro a; exact .inl rfl
  | cons c L ih =>
    intro a
    rw [fl_cons]
    split
    · rcases ih c with h | h
      · rw [h]; exact .inr (by simp)
      · exact .inr (by simp [h])
    · rcases ih a with h | h
      · exact .inl h
      · exact .inr (by simp [h])
theorem length_fsR (S : List Sb) : (fsR S).length ≤ 7 := by
  cases h : slB S
  · rw [fsR_no h]; simp
  · rw [fsR_yes h]
    have hl := slB_len h
    rcases fl_mem (allD S) [] with e | e
    · rw [e]; simp
    · have := stk_len (stkD_stk _ _ rfl _ e); omega

set_option maxRecDepth 100000 in
set_option maxHeartbeats 4000000 in
theorem firstStack_any (A : Option Addr) (n c : Nat) (S : List Sb) (w : World) (hr : Rd w 2 A n (pairCells S)) (hn : n ≤ 4000000000) :
    Calls Try.prog 18 #[.slice A n c] w fun e w' => ∃ A' n' c', e = .returned (.tuple #[.slice A' n' c', .bool (slB S)]) ∧ w'.ownsRow w.heap.size 3 1 (.slice A' n' c') n' (intCells (fsR S)) ∧ Below w.heap.size w w' := by
  cases h : slB S
  · rw [fsR_no h]
    go_enter Try.func18, Try.ntmps18
    go_wp2_with fail
    refine (areSlabs_any _ _ _ S _ hr hn).mono ?_; rintro e w1 ⟨rfl, hb1⟩
    rw [h]
    go_wp2
    go_ret2
    exact ⟨none, 0, 0, rfl, World.ownsRow_nil _ _ _ _, hb1⟩
  · rw [fsR_yes h]
    have HS := Lib.hid h
    have HLE := Lib.hid (allD_len h)
    go_enter Try.func18, Try.ntmps18
    go_wp2_with fail
    refine (areSlabs_any _ _ _ S _ hr hn).mono ?_; rintro e w1 ⟨rfl, hb1⟩
    rw [h]
    clear h
    go_wp2_with fail
    refine (stacksOf_any A n c S _ HS.out (hr.later hb1 (Nat.le_refl _))).mono ?_; rintro e w2 ⟨Ad, N, cd, rfl, hlen, hss, hb2⟩
    have s1 := hb1.size
    obtain ⟨AA, CC, ho⟩ := hss.base s1
    have HO := Lib.hid ho
    have HLEN := Lib.hid hlen
    have BB := Lib.hid (hb1.trans (hb2.mono s1))
    have hN : N ≤ 960800 := by have := HLE.out; omega
    have HTOP := Lib.hid (Rd.of_own ho.top)
    clear ho hss hlen hb1 hb2 HLE
    go_wp2
    go_loop [4, 13] (fun v i => ∃ (k : Nat) (A' : Option Addr) (n' c' : Nat), k ≤ N ∧ i = .int .i64 (k : Int) ∧ v = .slice A' n' c' ∧ Hid (w2.ownsRow w.heap.size 3 1 (.slice A' n' c') n' (intCells (fl [] ((allD S).take k)))) ∧ n' ≤ 100) (fun _ i => N - (intOf i).toNat)
    case atStart => exact ⟨0, none, 0, 0, Nat.zero_le _, rfl, rfl, by simpa [Hid, fl, intCells] using World.ownsRow_nil _ _ _ _, by omega⟩
    case round =>
      obtain ⟨k, A', n', c', hk, rfl, rfl, hv, hn1⟩ := hrel
      by_cases hlt : k < N
      · obtain ⟨b, o, e, hbl, hc⟩ := HTOP.out.2 (by omega)
        have p1 := hc k _ (ssCells_at hlt)
        subst e
        have hrow := HO.out.row k hlt
        have HE := Lib.hid (fl_take (L := allD S) (k := k) (by rw [HLEN.out]; exact hlt))
        have hfl : (fl [] ((allD S).take k)).length = n' := by have := hv.out.1; rw [length_intCells] at this; omega
        have HFL := Lib.hid hfl
        have hr7 := Nat.le_trans (stk_len (allD_row (S := S) (k := k) (by rw [HLEN.out]; exact hlt))) (slB_len HS.out).2
        have HROW := Lib.hid hrow
        clear hrow hc hfl
        generalize hq : (rowL (allD S) k).length = q at *
        have HQ := Lib.hid hq
        clear hq
        by_cases hlq : n' < q
        · have HV : Hid (w2.ownsRow w.heap.size 3 1 (.slice (AA k) q (CC k)) q (intCells (fl [] ((allD S).take (k + 1))))) := by
            simp only [Hid]
            rw [HE.out, if_pos (by rw [HFL.out]; exact hlq)]
            exact HROW.out
          clear HE HROW hv
          go_wp2
          go_round
          case rel => exact ⟨k + 1, AA k, q, CC k, by omega, by go_num, rfl, HV, by omega⟩
          case measure => simp [intOf]; omega
        · have HV : Hid (w2.ownsRow w.heap.size 3 1 (.slice A' n' c') n' (intCells (fl [] ((allD S).take (k + 1))))) := by
            simp only [Hid]
            rw [HE.out, if_neg (by rw [HFL.out]; exact hlq)]
            exact hv.out
          clear HE HROW hv
          go_wp2
          go_round
          case rel => exact ⟨k + 1, A', n', c', by omega, by go_num, rfl, HV, hn1⟩
          case measure => simp [intOf]; omega
      · have HV : Hid (w2.ownsRow w.heap.size 3 1 (.slice A' n' c') n' (intCells (fl [] (allD S)))) := by
          have h := hv.out
          rw [List.take_of_length_le (by rw [HLEN.out]; omega)] at h
          exact h
        clear hv
        go_wp2
        go_ret2
        exact ⟨A', n', c', rfl, HV.out, BB.out⟩

set_option maxHeartbeats 1000000 in
theorem mostStacked_any (A : Option Addr) (n c : Nat) (S : List Sb) (w : World) (hr : Rd w 2 A n (pairCells S)) (hn : n ≤ 4000000000) :
    Calls Try.prog 16 #[.slice A n c] w fun e w' => e = .returned (.tuple #[.int .i64 (msR S), .bool (slB S)]) ∧ Below w.heap.size w w' := by
  go_enter Try.func16, Try.ntmps16
  go_wp2_with fail
  refine (firstStack_any A n c S _ hr hn).mono ?_; rintro e w1 ⟨A', n', c', rfl, ho, hb⟩
  have HL : Hid ((fsR S).length = n') := by have := ho.1; rw [length_intCells] at this; simp only [Hid]; omega
  clear ho
  go_wp2
  go_ret2
  exact ⟨by unfold msR; rw [HL.out]; rfl, hb⟩

set_option maxHeartbeats 1000000 in
theorem countStacks_any (A : Option Addr) (n c : Nat) (S : List Sb) (w : World) (hr : Rd w 2 A n (pairCells S)) (hn : n ≤ 4000000000) :
    Calls Try.prog 25 #[.slice A n c] w fun e w' => e = .returned (.tuple #[.int .i64 (cnR S), .bool (slB S)]) ∧ Below w.heap.size w w' := by
  cases h : slB S
  · rw [show cnR S = 0 by simp [cnR, h]]
    go_enter Try.func25, Try.ntmps25
    go_wp2_with fail
    refine (areSlabs_any _ _ _ S _ hr hn).mono ?_; rintro e w1 ⟨rfl, hb1⟩
    rw [h]
    go_wp2
    go_ret2
    exact ⟨rfl, hb1⟩
  · rw [show cnR S = ((allD S).length : Int) by simp [cnR, h]]
    have HS := Lib.hid h
    go_enter Try.func25, Try.ntmps25
    go_wp2_with fail
    refine (areSlabs_any _ _ _ S _ hr hn).mono ?_; rintro e w1 ⟨rfl, hb1⟩
    rw [h]
    clear h
    go_wp2_with fail
    refine (stacksOf_any A n c S _ HS.out (hr.later hb1 (Nat.le_refl _))).mono ?_; rintro e w2 ⟨Ad, N, cd, rfl, hlen, _, hb2⟩
    have s1 := hb1.size
    have BB := Lib.hid (hb1.trans (hb2.mono s1))
    have HLEN := Lib.hid hlen
    clear hlen hb1 hb2
    go_wp2
    go_ret2
    exact ⟨by rw [HLEN.out]; rfl, BB.out⟩

set_option maxRecDepth 100000 in
set_option maxHeartbeats 4000000 in
theorem heaviestStack_any (A : Option Addr) (n c : Nat) (S : List Sb) (w : World) (hr : Rd w 2 A n (pairCells S)) (hn : n ≤ 4000000000) :
    Calls Try.prog 23 #[.slice A n c] w fun e w' => e = .returned (.tuple #[.int .i64 (hvR S), .bool (slB S)]) ∧ Below w.heap.size w w' := by
  cases h : slB S
  · rw [show hvR S = 0 by simp [hvR, h]]
    go_enter Try.func23, Try.ntmps23
    go_wp2_with fail
    refine (areSlabs_any _ _ _ S _ hr hn).mono ?_; rintro e w1 ⟨rfl, hb1⟩
    rw [h]
    go_wp2
    go_ret2
    exact ⟨rfl, hb1⟩
  · rw [show hvR S = hv S 0 (allD S) by simp [hvR, h]]
    have HS := Lib.hid h
    have HLE := Lib.hid (allD_len h)
    have hll : S.length = n := by have := hr.1; rw [length_pairCells] at this; omega
    have HL := Lib.hid hll
    have hl7 := slB_len h
    have hn7 : n ≤ 7 := by omega
    clear hll hl7
    go_enter Try.func23, Try.ntmps23
    go_wp2_with fail
    refine (areSlabs_any _ _ _ S _ hr hn).mono ?_; rintro e w1 ⟨rfl, hb1⟩
    have s1 := hb1.size
    rw [h]
    clear h
    go_wp2_with fail
    refine (weightsOf_any A n c S _ (hr.later hb1 (Nat.le_refl _)) (by omega)).mono ?_; rintro e w2 ⟨⟨Aw, cw, rfl, ow⟩, hb2⟩
    have s2 := hb2.size
    have OW := Lib.hid (Rd.of_own ow)
    have B2 := Lib.hid (hb1.trans (hb2.mono s1))
    clear ow hb1 hb2
    go_wp2_with fail
    refine (weigher_any Aw n cw _).mono ?_; rintro e w3 ⟨⟨bw, rfl, cw3, lw3, lw4⟩, hb3⟩
    have s3 := hb3.size
    have OW3 := Lib.hid (OW.out.later hb3 (Nat.le_refl _))
    have B3 := Lib.hid (B2.out.trans (hb3.mono (by omega)))
    have CW3 := Lib.hid cw3
    clear cw3 hb3
    go_wp2_with fail
    refine (stacksOf_any A n c S _ HS.out (hr.later B3.out (Nat.le_refl _))).mono ?_; rintro e w4 ⟨Ad, N, cd, rfl, hlen, hss, hb4⟩
    have s4 := hb4.size
    obtain ⟨AA, CC, ho⟩ := hss
    have HO := Lib.hid ho
    have HLEN := Lib.hid hlen
    have BB := Lib.hid (B3.out.trans (hb4.mono (by omega)))
    have hN : N ≤ 960800 := by have := HLE.out; omega
    have HTOP := Lib.hid (Rd.of_own ho.top)
    have OW4 := Lib.hid (OW3.out.later hb4 (Nat.le_refl _))
    have CW4 := Lib.hid ((hb4.cell (p := ⟨bw, 0, none⟩) lw4).trans CW3.out)
    have HHB : Hid (∀ k, k ≤ N → 0 ≤ hv S 0 ((allD S).take k) ∧ hv S 0 ((allD S).take k) ≤ 7000) := by
      intro k
      induction k with
      | zero => intro _; simp [hv]
      | succ k ih =>
        intro hk
        have h1 := ih (by omega)
        have hrow := allD_row (S := S) (k := k) (by rw [HLEN.out]; omega)
        have h2 := wsum_in HS.out (stk_in hrow)
        have h3 := stk_len hrow
        have h4 := slB_len HS.out
        rw [hv_take (by rw [HLEN.out]; omega)]
        omega
    clear ho hlen hb4 HLE
    go_wp2
    go_loop [5, 17] (fun v i => ∃ k : Nat, k ≤ N ∧ i = .int .i64 (k : Int) ∧ v = .int .i64 (hv S 0 ((allD S).take k))) (fun _ i => N - (intOf i).toNat)
    case atStart => exact ⟨0, Nat.zero_le _, rfl, by simp [hv]⟩
    case round =>
      obtain ⟨k, hk, rfl, rfl⟩ := hrel
      by_cases hlt : k < N
      · obtain ⟨b, o, e, hbl, hc⟩ := HTOP.out.2 (by omega)
        have p1 := hc k _ (ssCells_at hlt)
        subst e
        have hrow := allD_row (S := S) (k := k) (by rw [HLEN.out]; exact hlt)
        have hr7 := Nat.le_trans (stk_len hrow) (slB_len HS.out).2
        have HE := Lib.hid (hv_take (S := S) (L := allD S) (k := k) (by rw [HLEN.out]; exact hlt))
        have HW := Lib.hid (weigh_any (AA k) (rowL (allD S) k).length (CC k) (rowL (allD S) k) Aw n cw (S.map Prod.fst) bw w4 (Rd.of_own (HO.out.row k hlt)) (by omega) CW4.out OW4.out
          (fun z hz => by
            obtain ⟨p, hp, rfl⟩ := List.mem_map.1 hz
            obtain ⟨i, hi, rfl⟩ := List.getElem_of_mem hp
            have := slB_at HS.out hi; omega)
          (fun z hz => by have := stk_in hrow z hz; rw [List.length_map]; exact this) (by omega))
        rw [wtsum_fst] at HW
        generalize (rowL (allD S) k).length = q at *
        clear hc hrow
        generalize hx : hv S 0 ((allD S).take k) = x at *
        generalize hy : wsum S (rowL (allD S) k) = y at *
        clear hx hy
        by_cases hxy : x < y
        · have hmx : max x y = y := by omega
          rw [hmx] at HE
          go_wp2_with fail
          refine HW.out.mono ?_; rintro e wx ⟨rfl, rfl⟩
          go_wp2
          go_round
          case rel => exact ⟨k + 1, by omega, by go_num, by rw [HE.out]; try simp [hmx]⟩
          case measure => simp [intOf]; omega
        · have hmx : max x y = x := by omega
          rw [hmx] at HE
          go_wp2_with fail
          refine HW.out.mono ?_; rintro e wx ⟨rfl, rfl⟩
          go_wp2
          go_round
          case rel => exact ⟨k + 1, by omega, by go_num, by rw [HE.out]; try simp [hmx]⟩
          case measure => simp [intOf]; omega
      · have HE : Hid (hv S 0 ((allD S).take k) = hv S 0 (allD S)) := by
          simp only [Hid]; rw [List.take_of_length_le (by rw [HLEN.out]; omega)]
        go_wp2
        go_ret2
        exact ⟨by rw [← HE.out]; rfl, BB.out⟩

end Go.Proofs.Ytkijcpbjjbhnhab
