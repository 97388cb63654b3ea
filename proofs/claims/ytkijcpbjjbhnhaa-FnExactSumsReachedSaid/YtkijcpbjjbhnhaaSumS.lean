/-
  Contract: SumsReached of the model (a table of what can be had). Conditions: none.
-/
import Derived.Test.YtkijcpbjjbhnhaaSumP
namespace Go.Proofs.Ytkijcpbjjbhnhaa
open Go.RowKit
set_option linter.unusedVariables false
set_option linter.unusedSimpArgs false

theorem bool_infoR : (Try.prog.info? 4).map (fun i => (i.zero, i.size, i.bytes)) = some (some (.bool false), 1, 1) := by kernel_rfl

/-- a table of so many answers -/
def tabC (N : Nat) (f : Nat → Bool) : List Value := (List.range N).map fun i => .bool (f i)
theorem length_tabC (N : Nat) (f : Nat → Bool) : (tabC N f).length = N := by simp [tabC]
theorem tabC_at {N : Nat} {f : Nat → Bool} {i : Nat} (h : i < N) : (tabC N f)[i]? = some (.bool (f i)) := by simp [tabC, h]
theorem tabC_set {N : Nat} {f g : Nat → Bool} {i : Nat} (v : Bool) (h : ∀ j, j < N → g j = if j = i then v else f j) : (tabC N f).set i (.bool v) = tabC N g := by
  apply List.ext_getElem?
  intro j
  rw [List.getElem?_set]
  by_cases hj : j < N
  · rw [tabC_at hj, tabC_at hj, h j hj]
    by_cases e : i = j
    · subst e; simp [length_tabC, hj]
    · rw [if_neg e, if_neg (fun h => e h.symm)]
  · rw [List.getElem?_eq_none (by rw [length_tabC]; omega), List.getElem?_eq_none (by rw [length_tabC]; omega)]
    by_cases e : i = j
    · subst e; simp [length_tabC, hj]
    · rw [if_neg e]
theorem tabC_congr {N : Nat} {f g : Nat → Bool} (h : ∀ j, j < N → f j = g j) : tabC N f = tabC N g := by
  unfold tabC
  exact List.map_congr_left (fun j hj => by rw [h j (List.mem_range.1 hj)])
theorem made_tabC (N : Nat) : (madeCells #[Value.bool false] N).toList = tabC N fun _ => false := by
  apply List.ext_getElem?
  intro j
  by_cases hj : j < N
  · rw [tabC_at hj]; simp [madeCells, hj, Nat.mod_one]
  · rw [List.getElem?_eq_none (by simp [madeCells, Value.cells]; omega), List.getElem?_eq_none (by rw [length_tabC]; omega)]

/-- the table while a weight is taken in: above a place it is the next one, up to it the last one -/
def midT (f g : Int → Bool) (d : Int) (i : Nat) : Bool := if d < (i : Int) then g i else f i
/-- the numbers below one that can be had -/
def listT (f : Int → Bool) (k : Nat) : List Int := ((List.range k).filter fun i => f ((i : Nat) : Int)).map fun i => ((i : Nat) : Int)
theorem listT_succ (f : Int → Bool) (k : Nat) : listT f (k + 1) = listT f k ++ if f (k : Int) then [(k : Int)] else [] := by
  unfold listT
  rw [List.range_succ, List.filter_append, List.map_append]
  congr 1
  cases h : f (k : Int) <;> simp [h]
theorem length_listT (f : Int → Bool) (k : Nat) : (listT f k).length ≤ k := by
  unfold listT
  rw [List.length_map]
  exact Nat.le_trans (List.length_filter_le _ _) (by simp)

set_option maxRecDepth 100000 in
set_option maxHeartbeats 4000000 in
theorem sSumsReached_any (A : Option Addr) (n c : Nat) (L : List Int) (w : World) (hr : Rd w 1 A n (intCells L)) (hn : n ≤ 4000000000) :
    Calls Try.prog 27 #[.slice A n c] w fun e w' => ∃ A' n' c', e = .returned (.tuple #[.slice A' n' c', .bool (wtB L)]) ∧ w'.ownsRow w.heap.size 3 1 (.slice A' n' c') n' (intCells (srR L)) ∧ Below w.heap.size w w' := by
  have HA := Lib.hid (skGood_any A n c L w hr hn)
  cases h : wtB L
  · rw [h] at HA
    rw [srR_no h]
    go_enter Try.func27, Try.ntmps27
    go_wp2_with fail
    refine HA.out.mono ?_; rintro e w1 ⟨rfl, rfl⟩
    go_wp2
    go_ret2
    exact ⟨none, 0, 0, rfl, World.ownsRow_nil _ _ _ _, Below.refl _ _⟩
  · rw [h] at HA
    rw [srR_yes h]
    obtain ⟨i0, hi, hz0, hz1, hz2⟩ := info_parts int_info
    obtain ⟨j0, hj, hy0, hy1, hy2⟩ := info_parts bool_infoR
    obtain ⟨hl1, hl12, hz⟩ := wtB_true h
    have hll := hr.ilen
    have HK := Lib.hid (skSum_any A n c L w hr (by omega) (fun z hz' => by have := hz z hz'; omega))
    have hsw := sum_wt h
    obtain ⟨M, hM⟩ : ∃ M : Nat, L.sum = (M : Int) := ⟨L.sum.toNat, by omega⟩
    have hSR : Hid (srL L = listT (rch L) (M + 1)) := by simp only [Hid]; unfold srL listT; rw [hM]; rfl
    rw [hM] at HK hsw
    have HT : Hid (∀ (k : Nat) (hk : k < L.length) (s : Int), rch (L.take (k + 1)) s = (rch (L.take k) s || rch (L.take k) (s - L[k]))) := fun k hk s => rch_take hk s
    have HNG : Hid (∀ k, k ≤ L.length → ∀ s : Int, s < 0 → rch (L.take k) s = false) := fun k hk s hs => by
      cases e : rch (L.take k) s
      · rfl
      · have := rch_bound (fun z hz' => (hz z hz').1) k hk s e; omega
    have HXB : Hid (∀ (k : Nat) (hk : k < L.length), ∃ X : Nat, L[k] = (X : Int) ∧ 1 ≤ X ∧ X ≤ 1000) := fun k hk => by
      have := hz _ (List.getElem_mem hk)
      exact ⟨L[k].toNat, by omega, by omega, by omega⟩
    have HLL := Lib.hid hll
    obtain ⟨b, o, rfl, hbl, hcs⟩ := hr.2 (by omega)
    have HC : Hid (∀ (k : Nat) (hk : k < L.length), w.cell? ⟨b, o + k, none⟩ = some (.int .i64 L[k])) := fun k hk => hcs k _ (by simp [intCells, hk])
    have hn12 : n ≤ 12 := by omega
    have hn1 : 1 ≤ n := by omega
    have hMb : M ≤ 12000 := by omega
    have hMM : (M : Int) + 1 = ((M + 1 : Nat) : Int) := by omega
    obtain ⟨N, hN⟩ : ∃ N, Hid (N = M + 1) := ⟨_, rfl⟩
    rw [← hN.out] at hMM hSR
    have hN1 : 1 ≤ N := by have := hN.out; omega
    have hNb : N ≤ 12001 := by have := hN.out; omega
    have hwN : IntKind.i64.wrap ((M : Int) + 1) = (N : Int) := by rw [hMM]; exact IntWalk.i64_in _ (by omega)
    clear hz hll hcs hr hn hl1 hl12 h hM hsw hMM
    go_enter Try.func27, Try.ntmps27
    go_wp2_with fail
    refine HA.out.mono ?_; rintro e w1 ⟨rfl, rfl⟩
    clear HA
    go_wp2_with fail
    refine HK.out.mono ?_; rintro e w1 ⟨rfl, rfl⟩
    clear HK
    go_wp2_with (at_make; refine wpList_make_full _ rfl (.tmp 16) (.tmp 16) 55 rfl w.heap.size 4 j0 (.bool false) 1 Try.underlying55 hj hy0 hy1 .i64 .i64 _ _ N rfl rfl ?b0 ?b1 ?b2 ?b3 (Nat.le_refl _) ?_)
    case b0 => first | exact hwN | rfl
    case b1 => first | exact hwN | rfl
    case b2 => rw [hy2]; omega
    case b3 => simp only [maxLen]; omega
    intro w1 hownT hgrowT
    rw [made_tabC] at hownT
    have hbT : Below w.heap.size w w1 := (Below.refl _ _).grown hgrowT (Nat.le_refl _) (fun k hk => by cases hk)
    have a0 : w1.cell? ⟨w.heap.size, 0, none⟩ = some (.bool false) := by rw [hownT.cellAt 0 (by omega), tabC_at (by omega)]
    have f0 : w1.frozen? ⟨w.heap.size, 0, none⟩ = false := hownT.frozenAt 0
    have st := hownT.stored 0 (.bool true)
    have HO0 : Hid ((w1.setCell ⟨w.heap.size, 0, none⟩ (.bool true)).ownsRow w.heap.size 4 1 (.slice (some ⟨w.heap.size, 0, none⟩) N N) N (tabC N fun i => rch (L.take 0) (i : Int))) := by
      simp only [Hid]
      rw [← tabC_set (f := fun _ => false) true (i := 0) (fun j hj => by by_cases e : j = 0 <;> simp [rch, e])]
      exact st.1
    have HB0 := Lib.hid (bset (p := ⟨w.heap.size, 0, none⟩) (Nat.le_refl _) (.bool true) hbT)
    have hNp : (0 : Int) < (N : Int) := by omega
    clear st hwN hownT hgrowT hbT
    go_wp2
    clear a0 f0
    go_loopw [22] (fun i wr => ∃ k : Nat, k ≤ n ∧ i = .int .i64 (k : Int) ∧ Hid (wr.ownsRow w.heap.size 4 1 (.slice (some ⟨w.heap.size, 0, none⟩) N N) N (tabC N fun i => rch (L.take k) (i : Int))) ∧ Hid (Below w.heap.size w wr)) (fun i _ => n - (intOf i).toNat)
    case atStart => exact ⟨0, Nat.zero_le _, rfl, HO0.out, HB0.out⟩
    case round =>
      clear HO0 HB0
      obtain ⟨k, hk, rfl, hown, hB⟩ := hrel
      by_cases hlt : k < n
      · have hkL : k < L.length := by rw [HLL.out]; exact hlt
        obtain ⟨X, hX, hX1, hX2⟩ := HXB.out k hkL
        have e1 : wr.cell? ⟨b, o + k, none⟩ = some (.int .i64 L[k]) := (hB.out.cell (p := ⟨b, o + k, none⟩) hbl).trans (HC.out k hkL)
        have hTk := HT.out k hkL
        have HNk := Lib.hid (HNG.out k (by omega))
        rw [hX] at e1 hTk
        have HTk := Lib.hid hTk
        clear hTk hX
        generalize rch (L.take k) = F at *
        obtain ⟨U, hU⟩ : ∃ U, Hid (rch (L.take (k + 1)) = U) := ⟨_, rfl⟩
        rw [hU.out] at HTk
        go_wp2
        clear e1
        go_loopw [7] (fun d wr => ∃ dd : Int, -1 ≤ dd ∧ dd ≤ (N : Int) - 1 ∧ d = .int .i64 dd ∧ Hid (wr.ownsRow w.heap.size 4 1 (.slice (some ⟨w.heap.size, 0, none⟩) N N) N (tabC N (midT F U dd))) ∧ Hid (Below w.heap.size w wr)) (fun d _ => (intOf d + 1).toNat)
        case atStart =>
          refine ⟨(N : Int) - 1, by omega, by omega, (by first | rfl | go_num), ?_, hB.out⟩
          rw [tabC_congr (g := fun i => F (i : Int)) (fun j hj => by unfold midT; rw [if_neg (by omega)])]
          exact hown.out
        case round =>
          clear hown hB
          obtain ⟨dd, hd1, hd2, rfl, hown, hB⟩ := hrel
          by_cases hle : (X : Int) ≤ dd
          · obtain ⟨q, rfl⟩ : ∃ q : Nat, dd = (q : Int) := ⟨dd.toNat, by omega⟩
            obtain ⟨p, hp⟩ : ∃ p : Nat, q = p + X := ⟨q - X, by omega⟩
            have hqN : q < N := by omega
            have hpN : p < N := by omega
            have e2 : wr.cell? ⟨w.heap.size, q, none⟩ = some (.bool (F (q : Int))) := by
              rw [hown.out.cellAt q (by omega), tabC_at hqN]; unfold midT; rw [if_neg (by omega)]
            have e3 : wr.cell? ⟨w.heap.size, p, none⟩ = some (.bool (F (p : Int))) := by
              rw [hown.out.cellAt p (by omega), tabC_at hpN]; unfold midT; rw [if_neg (by omega)]
            have f2 : wr.frozen? ⟨w.heap.size, q, none⟩ = false := hown.out.frozenAt q
            have HP : ∀ v : Bool, (F (q : Int) || F (p : Int)) = v → Hid ((wr.setCell ⟨w.heap.size, q, none⟩ (.bool v)).ownsRow w.heap.size 4 1 (.slice (some ⟨w.heap.size, 0, none⟩) N N) N (tabC N (midT F U ((q : Int) - 1)))) := fun v hv => by
              have st := (hown.out.stored q (.bool v)).1
              simp only [Hid]
              rw [← tabC_set (f := midT F U (q : Int)) v (i := q) (fun j hj => by
                by_cases e : j = q
                · subst e
                  rw [if_pos rfl]; unfold midT; rw [if_pos (by omega), HTk.out, show (j : Int) - (X : Int) = (p : Int) by omega]; exact hv
                · rw [if_neg e]; unfold midT
                  by_cases e2 : (q : Int) < (j : Int)
                  · rw [if_pos e2, if_pos (by omega)]
                  · rw [if_neg e2, if_neg (by omega)])]
              exact st
            have HB2 : ∀ v : Bool, Hid (Below w.heap.size w (wr.setCell ⟨w.heap.size, q, none⟩ (.bool v))) := fun v => bset (p := ⟨w.heap.size, q, none⟩) (Nat.le_refl _) (.bool v) hB.out
            have hqp : (q : Int) - (X : Int) = (p : Int) := by omega
            clear hp hown hB
            cases hq : F (q : Int)
            · rw [hq] at e2 HP
              generalize F (p : Int) = v at *
              have HP1 := HP v rfl
              have HB1 := HB2 v
              clear HP HB2 hq
              go_wp2
              go_roundw
              case rel => exact ⟨(q : Int) - 1, by omega, by omega, (by first | rfl | go_num), HP1, HB1⟩
              case measure => first | (simp [intOf]; omega) | simp [intOf]
            · rw [hq] at e2 HP
              have HP1 := HP true rfl
              have HB1 := HB2 true
              clear HP HB2 hq e3
              go_wp2
              go_roundw
              case rel => exact ⟨(q : Int) - 1, by omega, by omega, (by first | rfl | go_num), HP1, HB1⟩
              case measure => first | (simp [intOf]; omega) | simp [intOf]
          · have HOU : Hid (wr.ownsRow w.heap.size 4 1 (.slice (some ⟨w.heap.size, 0, none⟩) N N) N (tabC N fun i => rch (L.take (k + 1)) (i : Int))) := by
              simp only [Hid]
              rw [hU.out, tabC_congr (g := midT F U dd) (fun j hj => by
                unfold midT
                by_cases e : dd < (j : Int)
                · rw [if_pos e]
                · rw [if_neg e, HTk.out, HNk.out ((j : Int) - (X : Int)) (by omega), Bool.or_false])]
              exact hown.out
            clear hown
            go_wp2
            go_roundw
            case rel => exact ⟨k + 1, by omega, by go_num, HOU, hB⟩
            case measure => simp [intOf]; omega
      · have HOR : Hid (wr.ownsRow w.heap.size 4 1 (.slice (some ⟨w.heap.size, 0, none⟩) N N) N (tabC N fun i => rch L (i : Int))) := by
          have h := hown.out
          rw [List.take_of_length_le (by rw [HLL.out]; omega)] at h
          exact h
        clear hown HT HNG
        generalize rch L = R at *
        go_wp2
        go_loopw [8, 52] (fun v i wr => ∃ (k m : Nat) (A : Option Addr) (c : Nat), k ≤ N ∧ i = .int .i64 (k : Int) ∧ v = .slice A m c ∧ Hid (wr.ownsRow w.heap.size 3 1 (.slice A m c) m (intCells (listT R k))) ∧ Hid (wr.ownsRow w.heap.size 4 1 (.slice (some ⟨w.heap.size, 0, none⟩) N N) N (tabC N fun i => R (i : Int))) ∧ Hid (Below w.heap.size w wr)) (fun _ i _ => N - (intOf i).toNat)
        case atStart => exact ⟨0, 0, none, 0, Nat.zero_le _, rfl, rfl, World.ownsRow_nil _ _ _ _, HOR.out, hB.out⟩
        case round =>
          clear HOR hB
          obtain ⟨k2, m, A2, c2, hk2, rfl, rfl, hoa, hob, hB⟩ := hrel
          have hm : (listT R k2).length = m := by have := hoa.out.1; rw [length_intCells] at this; omega
          have hm2 := length_listT R k2
          rw [hm] at hm2
          clear hm
          by_cases hlt2 : k2 < N
          · have e4 : wr.cell? ⟨w.heap.size, k2, none⟩ = some (.bool (R (k2 : Int))) := by rw [hob.out.cellAt k2 (by omega), tabC_at hlt2]
            have HS := Lib.hid (listT_succ R k2)
            cases hR : R (k2 : Int)
            · rw [hR] at e4 HS
              have HS2 : Hid (listT R (k2 + 1) = listT R k2) := by have h := HS.out; simp only [Bool.false_eq_true, if_false, List.append_nil] at h; exact h
              clear hR HS
              go_wp2
              go_roundw
              case rel => exact ⟨k2 + 1, m, A2, c2, by omega, by go_num, rfl, by rw [HS2.out]; exact hoa, hob, hB⟩
              case measure => simp [intOf]; omega
            · rw [hR] at e4 HS
              have HS2 : Hid (listT R (k2 + 1) = listT R k2 ++ [(k2 : Int)]) := by have h := HS.out; simp only [if_true] at h; exact h
              clear hR HS
              have hc3 : m + 1 ≤ maxLen := by simp only [maxLen]; omega
              have hszq := hB.out.size
              have hnw := new1 wr 3 (.int .i64 (k2 : Int))
              have HOAA := Lib.hid (hoa.out.alloc (.cells #[.int .i64 (k2 : Int)] 3))
              have HOBB := Lib.hid (hob.out.alloc (.cells #[.int .i64 (k2 : Int)] 3))
              clear hoa hob
              go_wp2_with (at_builtin; refine wpList_append_own _ rfl (.tmp 58) (.tmp 60) 22 rfl w.heap.size 3 i0 (.int .i64 0) 1 8 Try.underlying22 hi hz0 hz1 hz2 rfl (by decide) _ _ _ rfl HOAA.out ⟨wr.heap.size, 0, none⟩ 1 1 [.int .i64 (k2 : Int)] rfl rfl hnw (int_oneCell [_]) hc3 (by omega) (by simp; omega) ?_)
              intro v' w4 hown' hgrow _
              obtain ⟨A4, c4, rfl⟩ := own_slice hown'
              have HO4 : Hid (w4.ownsRow w.heap.size 3 1 (.slice A4 (m + 1) c4) (m + 1) (intCells (listT R (k2 + 1)))) := by
                simp only [Hid]
                rw [HS2.out, intCells_append]
                exact hown'
              have HP4 := Lib.hid (HOBB.out.kept hgrow (own_types HOBB.out HOAA.out (by decide)))
              have HB4 := Lib.hid (bgrow (hB.out.alloc hszq (.cells #[.int .i64 (k2 : Int)] 3)) HOAA.out hgrow (by simp; omega))
              clear hown' hgrow HOAA HOBB hB
              go_wp2
              go_roundw
              case rel => exact ⟨k2 + 1, m + 1, A4, c4, by omega, by go_num, rfl, HO4, HP4, HB4⟩
              case measure => simp [intOf]; omega
          · have hkn : k2 = N := by omega
            have HOF : Hid (wr.ownsRow w.heap.size 3 1 (.slice A2 m c2) m (intCells (srL L))) := by
              have h := hoa.out
              rw [hkn, ← hSR.out] at h
              exact h
            clear hoa hkn
            go_wp2
            go_ret2
            exact ⟨A2, m, c2, rfl, HOF.out, hB.out⟩
end Go.Proofs.Ytkijcpbjjbhnhaa
