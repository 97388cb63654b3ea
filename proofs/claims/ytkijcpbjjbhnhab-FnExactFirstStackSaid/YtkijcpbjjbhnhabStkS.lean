/-
  Contracts: all stacks of the model (skAll): the first longest, the heaviest, how many. Conditions: none.
-/
import Derived.Test.YtkijcpbjjbhnhabStkF
import Derived.Test.YtkijcpbjjbhnhabOwnI
import Derived.Test.YtkijcpbjjbhnhabMinMax
import Derived.Test.YtkijcpbjjbhnhabRegA
namespace Go.Proofs.Ytkijcpbjjbhnhab
open Go.RowKit
set_option linter.unusedVariables false
set_option linter.unusedSimpArgs false

theorem fl_sub (S : List Sb) (f : Nat) (s a : List Int) : fl a (stkD S f s) = if a.length < (fl s (stkD S f s)).length then fl s (stkD S f s) else a := by
  obtain ⟨T, e⟩ := stkD_head S f s
  rw [e, fl_split]
  have : fl s (s :: T) = fl s T := by rw [fl_cons]; simp
  rw [this]
theorem hv_sub (S : List Sb) (f : Nat) (s : List Int) (h : Int) : hv S h (stkD S f s) = max h (hv S (wsum S s) (stkD S f s)) := by
  obtain ⟨T, e⟩ := stkD_head S f s
  rw [e, hv_cons, hv_max, hv_cons, Int.max_self]
theorem fl_self (S : List Sb) (f : Nat) (s : List Int) : fl s (stkK S f s 0) = s := by rw [stkK_zero]; simp [fl]
theorem hv_self (S : List Sb) (f : Nat) (s : List Int) : hv S (wsum S s) (stkK S f s 0) = wsum S s := by rw [stkK_zero]; simp [hv]
theorem wsum_takeS {S : List Sb} {o : List Int} {k : Nat} (h : k < o.length) : wsum S (o.take (k + 1)) = wsum S (o.take k) + wOf S o[k] := by
  rw [List.take_succ_eq_append_getElem h, wsum_append, wsum_one]

set_option maxRecDepth 100000 in
set_option maxHeartbeats 8000000 in
theorem skAll_any (S : List Sb) (hS : slB S = true) (A : Option Addr) (n c : Nat) : ∀ (f m cb : Nat) (Ab : Option Addr) (b : List Int) (room : Int) (w : World),
    Rd w 2 A n (pairCells S) → S.length ≤ b.length + f → f ≤ 7 → stk S b = true → roomI S b room → 0 ≤ room ∧ room ≤ 7000 → b.length = m → (m = 0 → Ab = none ∧ cb = 0) → Rd w 1 Ab m (intCells b) →
    Calls Try.prog 42 #[.slice A n c, .slice Ab m cb, .int .i64 room] w
      fun e w' => ∃ A' n' c', e = .returned (.tuple #[.slice A' n' c', .int .i64 (hv S (wsum S b) (stkD S f b)), .int .i64 ((stkD S f b).length : Int)]) ∧ w'.ownsRow w.heap.size 3 1 (.slice A' n' c') n' (intCells (fl b (stkD S f b))) ∧ Below w.heap.size w w' := by
  have hl7 := slB_len hS
  have HSB := Lib.hid hS
  obtain ⟨i0, hi, hz0, hz1, hz2⟩ := info_parts int_info
  intro f
  induction f using Nat.strongRecOn with
  | ind f ih =>
    intro m cb Ab b room w hr hf hf7 hb hrm hroom hm hm0 hrb
    have hll : S.length = n := by have := hr.1; rw [length_pairCells] at this; omega
    have hbl := stk_len hb
    have hm7 : m ≤ 7 := by omega
    have HST := Lib.hid hb
    have HRM := Lib.hid hrm
    have HF := Lib.hid (stkD_any hf)
    have HIH := Lib.hid ih
    have HLL := Lib.hid hll
    have HM := Lib.hid hm
    have HW7 : Hid (∀ k, k ≤ m → 0 ≤ wsum S (b.take k) ∧ wsum S (b.take k) ≤ 7000) := fun k hk => by
      have h1 := wsum_in hS (o := b.take k) (fun z hz => stk_in hb z (List.mem_of_mem_take hz))
      have h2 : (b.take k).length ≤ 7 := by rw [List.length_take]; omega
      omega
    have hfn : n ≤ m + f := by omega
    clear hb hrm ih hm hbl hf hll
    have hn7 : n ≤ 7 := by have := HLL.out; omega
    obtain ⟨hro0, hro1⟩ := hroom
    go_enter Try.func42, Try.ntmps42
    go_wp2_with fail
    refine (l1OwnN_any Ab m cb b _ hrb hm0 (by omega)).mono ?_; rintro e w1 ⟨A1, c1, rfl, own1, hb1⟩
    have s1 := hb1.size
    have OWN1 := Lib.hid own1
    have HB1 := Lib.hid hb1
    clear own1 hb1
    go_wp2
    go_loop [10, 23] (fun v i => ∃ k : Nat, k ≤ m ∧ i = .int .i64 (k : Int) ∧ v = .int .i64 (wsum S (b.take k))) (fun _ i => m - (intOf i).toNat)
    case atStart => exact ⟨0, Nat.zero_le _, rfl, by simp [wsum]⟩
    case round =>
      obtain ⟨k, hk, rfl, rfl⟩ := hrel
      by_cases hlt : k < m
      · obtain ⟨bb, o, rfl, hbl, hx, p1⟩ := (hrb.later HB1.out (Nat.le_refl _)).num hlt
        have hzin := stk_in HST.out _ (List.getElem_mem hx)
        have hs := HW7.out k hk
        have HS := Lib.hid (wsum_takeS (S := S) hx)
        generalize b[k] = x at *
        obtain ⟨xn, rfl⟩ : ∃ xn : Nat, x = xn := ⟨x.toNat, by omega⟩
        have hxn : xn < n := by have := HLL.out; omega
        obtain ⟨b2, q2, rfl, hb2, hx2, p2a, p2b⟩ := (hr.later HB1.out (Nat.le_refl _)).pair hxn
        have hwo : wOf S (xn : Int) = (S[xn]).1 := by
          unfold wOf
          rw [Int.toNat_natCast, List.getD_eq_getElem?_getD, List.getElem?_eq_getElem hx2]; rfl
        rw [hwo] at HS
        obtain ⟨hv1, hv2, _, _⟩ := slB_at HSB.out hx2
        generalize hz3 : (S[xn]).1 = v at *
        generalize wsum S (b.take k) = s at *
        obtain ⟨hs1, hs2⟩ := hs
        clear p2b hwo hz3 hzin hx
        go_wp2
        go_round
        case rel => exact ⟨k + 1, by omega, by go_num, by rw [HS.out]⟩
        case measure => simp [intOf]; omega
      · have hkm : k = m := by omega
        have HWE : Hid (wsum S (b.take k) = wsum S b) := by simp only [Hid]; rw [List.take_of_length_le (by rw [HM.out]; omega)]
        rw [HWE.out]
        clear hkm hk
        go_wp2
        clear hlt
        go_loopw [9, 10, 11, 37] (fun bv hvv cv i wr => ∃ (k : Nat) (A' : Option Addr) (n' c' : Nat), k ≤ n ∧ i = .int .i64 (k : Int) ∧ bv = .slice A' n' c' ∧ hvv = .int .i64 (hv S (wsum S b) (stkK S (f - 1) b k)) ∧ cv = .int .i64 ((stkK S (f - 1) b k).length : Int) ∧ wr.ownsRow w.heap.size 3 1 (.slice A' n' c') n' (intCells (fl b (stkK S (f - 1) b k))) ∧ n' ≤ 100 ∧ Below w.heap.size w wr) (fun _ _ _ i _ => n - (intOf i).toNat)
        case atStart => exact ⟨0, A1, m, c1, Nat.zero_le _, rfl, rfl, by rw [hv_self], by rw [stkK_zero]; rfl, by rw [fl_self]; exact OWN1.out, by omega, HB1.out⟩
        case round =>
          obtain ⟨k, A', n', c', hk, rfl, rfl, rfl, rfl, hown, hn1, hB⟩ := hrel
          have sB := hB.size
          by_cases hlt : k < n
          · obtain ⟨b2, q2, rfl, hb2, hx2, p1, p2⟩ := (hr.later hB (Nat.le_refl _)).pair hlt
            have hwo : Hid (wOf S (k : Int) = (S[k]).1) := by
              simp only [Hid]; unfold wOf
              rw [Int.toNat_natCast, List.getD_eq_getElem?_getD, List.getElem?_eq_getElem hx2]; rfl
            have hbo : Hid (bOf S (k : Int) = (S[k]).2) := by
              simp only [Hid]; unfold bOf
              rw [Int.toNat_natCast, List.getD_eq_getElem?_getD, List.getElem?_eq_getElem hx2]; rfl
            have hbd := slB_at HSB.out hx2
            have HNX := Lib.hid (stk_next HSB.out HST.out HRM.out (k := (k : Int)) (by have := HLL.out; omega))
            have HRS := Lib.hid (roomI_snoc (k := (k : Int)) HRM.out (by rw [hwo.out]; omega))
            have HE := Lib.hid (stkK_succ S (f - 1) b k)
            rw [hwo.out] at HNX HRS
            rw [hbo.out] at HRS
            have HLN := Lib.hid (stkK_len (S := S) (by have := HLL.out; omega) (f - 1) b k)
            generalize hq1 : (S[k]).1 = x at *
            generalize hq2 : (S[k]).2 = y at *
            clear hq1 hq2 hwo hbo hx2
            obtain ⟨hx1, hx2, hy1, hy2⟩ := hbd
            have HHAS := Lib.hid (fun wx (h : Rd wx 1 Ab m (intCells b)) => l1HasI_any Ab m cb b (k : Int) wx h (by omega))
            have hRB := hrb.later hB (Nat.le_refl _)
            have HRB := Lib.hid (fun o => hRB.alloc o)
            have HOWN := Lib.hid hown
            have HB := Lib.hid hB
            clear hown hB hRB
            have hbx : Below w.heap.size w (wr.alloc (.cells #[.int .i64 x, .int .i64 y] 43)) := HB.out.alloc sB _
            have hox := own_later HOWN.out ((Below.refl wr.heap.size wr).alloc (Nat.le_refl _) (.cells #[.int .i64 x, .int .i64 y] 43)) (Nat.le_refl _)
            have HOX := Lib.hid hox
            have HBX := Lib.hid hbx
            clear hox hbx
            by_cases hgo : hasI b (k : Int) = false ∧ x ≤ room
            · obtain ⟨hh, hxr⟩ := hgo
              have hst : stk S (b ++ [(k : Int)]) = true := HNX.out.2 ⟨hasI_not.1 hh, hxr⟩
              obtain ⟨f1, hf1⟩ := stk_fuel (S := S) (s := b) (f := f) (by have := HLL.out; have := HM.out; omega) hst
              have hf11 : f - 1 = f1 := by omega
              have HSTK := Lib.hid hst
              have hs7 : m + 1 ≤ n := by have h := stk_len hst; rw [List.length_append, HM.out, HLL.out] at h; exact h
              have hE2 : stkK S (f - 1) b (k + 1) = stkK S (f - 1) b k ++ stkD S f1 (b ++ [(k : Int)]) := by rw [HE.out, hst, hf11]; rfl
              have HFL : Hid (fl b (stkK S (f - 1) b (k + 1)) = if (fl b (stkK S (f - 1) b k)).length < (fl (b ++ [(k : Int)]) (stkD S f1 (b ++ [(k : Int)]))).length then fl (b ++ [(k : Int)]) (stkD S f1 (b ++ [(k : Int)])) else fl b (stkK S (f - 1) b k)) := by
                simp only [Hid]; rw [hE2, fl_append, fl_sub]
              have HHV : Hid (hv S (wsum S b) (stkK S (f - 1) b (k + 1)) = max (hv S (wsum S b) (stkK S (f - 1) b k)) (hv S (wsum S (b ++ [(k : Int)])) (stkD S f1 (b ++ [(k : Int)])))) := by
                simp only [Hid]; rw [hE2, hv_append, hv_sub]
              have HCT : Hid ((stkK S (f - 1) b (k + 1)).length = (stkK S (f - 1) b k).length + (stkD S f1 (b ++ [(k : Int)])).length) := by
                simp only [Hid]; rw [hE2, List.length_append]
              have hce : (stkD S f1 (b ++ [(k : Int)])).length ≤ 960800 := Nat.le_trans (stkD_len S (by have := HLL.out; omega) f1 _) (cntK_le (by omega))
              have hck : (stkK S (f - 1) b k).length ≤ 7000000 := by
                have h1 := HLN.out
                have h2 := cntK_le (f := f - 1) (by omega)
                have h3 : k * cntK (f - 1) ≤ 6 * cntK (f - 1) := Nat.mul_le_mul_right _ (by omega)
                omega
              have hwr : IntKind.i64.wrap (room - x) = room - x := IntWalk.i64_in _ (by omega)
              have HIHx := Lib.hid (fun c4 A4 wx h1 h2 => HIH.out f1 (by omega) (m + 1) c4 A4 (b ++ [(k : Int)]) (min (room - x) y) wx h1 (by rw [List.length_append, HM.out]; have := HLL.out; simp; omega) (by omega) hst HRS.out (by omega) (by rw [List.length_append, HM.out]; rfl) (fun h => absurd h (by omega)) h2)
              have hrA := HRB.out (.cells #[.int .i64 x, .int .i64 y] 43)
              have hrS := hr.later HBX.out (Nat.le_refl _)
              have cA0 : (wr.alloc (.cells #[.int .i64 x, .int .i64 y] 43)).cell? ⟨wr.heap.size, 0, none⟩ = some (.int .i64 x) := by simp [go_sem]
              have cA1 : (wr.alloc (.cells #[.int .i64 x, .int .i64 y] 43)).cell? ⟨wr.heap.size, 1, none⟩ = some (.int .i64 y) := by simp [go_sem]
              have hgA : wr.heap.size < (wr.alloc (.cells #[.int .i64 x, .int .i64 y] 43)).heap.size := by simp
              have hc3 : m + 1 ≤ maxLen := by simp only [maxLen]; omega
              have hc4 : (m + 1) * 8 ≤ 140737488355328 := by omega
              have hd : decide (room < x) = false := by simp; exact hxr
              clear HE HNX hst hf11 hE2 hf1
              go_wp2_with (go_at_call 38; refine (HHAS.out _ (HRB.out _)).mono ?_; rintro e wx ⟨rfl, rfl⟩; rw [hh])
              clear HRB HHAS
              generalize wr.alloc (.cells #[.int .i64 x, .int .i64 y] 43) = wA at *
              generalize wr.heap.size = g at *
              have HCL := Lib.hid (l1OwnN_any Ab m cb b wA.drew (hrA.later (Below.refl _ _).drew (Nat.le_refl _)) hm0 (by omega))
              have HRSl := Lib.hid hrS
              clear hrS p1 p2 hb2
              refine wp_region_held_drew (S := (fun w' => w'.cell? ⟨g, 0, none⟩ = some (.int .i64 x) ∧ w'.cell? ⟨g, 1, none⟩ = some (.int .i64 y))) (by kernel_rfl) ?_ (fun hHeld => ?_)
              · ((try dsimp only); (repeat' apply And.intro); all_goals ((repeat (first | (with_reducible refine cell_drew ?_) | (with_reducible refine cell_drewN _ ?_) | ((with_reducible refine cell_alloc ?_ ?_); · first | omega | (simp; done) | (simp; omega) | assumption) | ((with_reducible refine cell_set ?_ ?_); · first | (intro e; injection e; omega) | (intro e; simp at e; done) | (intro e; simp at e; omega)))); first | assumption | (simp; done)))
              refine reg_on (i := 0) (d := 52) (v := ?rv1) rfl rfl (by kernel_rfl) (by kernel_rfl) (by kernel_rfl) (fun _ _ _ h => h) (by rfl) ?ry1 (by assumption) ?rr1
              case ry1 => (intro wz hSw; (try dsimp only at hSw); go_simp; try with_reducible rfl)
              (try simp only [Act.put, List.setIfInBounds_toArray, List.set_cons_zero, List.set_cons_succ])
              refine reg_on (i := 1) (d := 53) (v := ?rv2) rfl rfl (by kernel_rfl) (by kernel_rfl) (by kernel_rfl) (fun _ _ _ h => h) (by rfl) ?ry2 (by assumption) ?rr2
              case ry2 => (intro wz hSw; (try dsimp only at hSw); go_simp; try with_reducible rfl)
              (try simp only [Act.put, List.setIfInBounds_toArray, List.set_cons_zero, List.set_cons_succ])
              refine reg_on (i := 3) (d := 55) (v := ?rv3) rfl rfl (by kernel_rfl) (by kernel_rfl) (by kernel_rfl) (fun _ _ _ h => h) (by rfl) ?ry3 (by assumption) ?rr3
              case ry3 => (intro wz hSw; (try dsimp only at hSw); go_simp; try with_reducible rfl)
              (try simp only [Act.put, List.setIfInBounds_toArray, List.set_cons_zero, List.set_cons_succ])
              refine reg_on (i := 6) (d := 58) (v := ?rv4) rfl rfl (by kernel_rfl) (by kernel_rfl) (by kernel_rfl) (fun _ _ _ h => h) (by rfl) ?ry4 (by assumption) ?rr4
              case ry4 => (intro wz hSw; (try dsimp only at hSw); go_simp; try with_reducible rfl)
              (try simp only [Act.put, List.setIfInBounds_toArray, List.set_cons_zero, List.set_cons_succ])
              refine reg_on (i := 7) (d := 59) (v := ?rv5) rfl rfl (by kernel_rfl) (by kernel_rfl) (by kernel_rfl) (fun _ _ _ h => h) (by rfl) ?ry5 (by assumption) ?rr5
              case ry5 => (intro wz hSw; (try dsimp only at hSw); go_simp; try with_reducible rfl)
              (try simp only [Act.put, List.setIfInBounds_toArray, List.set_cons_zero, List.set_cons_succ])
              refine reg_on (i := 8) (d := 60) (v := ?rv6) rfl rfl (by kernel_rfl) (by kernel_rfl) (by kernel_rfl) (fun _ _ _ h => h) (by rfl) ?ry6 (by assumption) ?rr6
              case ry6 => (intro wz hSw; (try dsimp only at hSw); go_simp; try with_reducible rfl)
              (try simp only [Act.put, List.setIfInBounds_toArray, List.set_cons_zero, List.set_cons_succ])
              refine reg_on (i := 9) (d := 61) (v := ?rv7) rfl rfl (by kernel_rfl) (by kernel_rfl) (by kernel_rfl) (fun _ _ _ h => h) (by rfl) ?ry7 (by assumption) ?rr7
              case ry7 => (intro wz hSw; (try dsimp only at hSw); go_simp; try with_reducible rfl)
              (try simp only [Act.put, List.setIfInBounds_toArray, List.set_cons_zero, List.set_cons_succ])
              refine reg_on (i := 10) (d := 62) (v := ?rv8) rfl rfl (by kernel_rfl) (by kernel_rfl) (by kernel_rfl) (fun _ _ _ h => h) (by rfl) ?ry8 (by assumption) ?rr8
              case ry8 => (intro wz hSw; (try dsimp only at hSw); go_simp; try with_reducible rfl)
              (try simp only [Act.put, List.setIfInBounds_toArray, List.set_cons_zero, List.set_cons_succ])
              refine reg_on (i := 11) (d := 63) (v := ?rv9) rfl rfl (by kernel_rfl) (by kernel_rfl) (by kernel_rfl) (fun _ _ _ h => h) (by rfl) ?ry9 (by assumption) ?rr9
              case ry9 => (intro wz hSw; (try dsimp only at hSw); go_simp; try with_reducible rfl)
              (try simp only [Act.put, List.setIfInBounds_toArray, List.set_cons_zero, List.set_cons_succ])
              refine wpAnyH_ready (rs := [2, 4]) (by kernel_rfl) (by simp) ?_
              refine AllReadyH.cons rfl (fun K hK => ?_) (AllReadyH.cons rfl (fun K hK => ?_) AllReadyH.nil)
              · go_simp
                go_at_call 46; refine HCL.out.mono ?_; rintro e w2 ⟨A2, cA, rfl, own2, hb2⟩
                have own2 : w2.ownsRow wA.heap.size 3 1 (.slice A2 m cA) m (intCells b) := own2
                have hb2 : Below wA.heap.size wA w2 := (Below.refl wA.heap.size wA).drew.trans hb2
                have s2 := hb2.size
                have e20 : w2.cell? ⟨g, 0, none⟩ = some (.int .i64 x) := (hb2.cell (p := ⟨g, 0, none⟩) hgA).trans cA0
                have e21 : w2.cell? ⟨g, 1, none⟩ = some (.int .i64 y) := (hb2.cell (p := ⟨g, 1, none⟩) hgA).trans cA1
                refine hK.out _ _ ?_ (fun hHeld => ?_)
                · exact ⟨e20, e21⟩
                clear hK K
                (try simp only [Act.put, List.setIfInBounds_toArray, List.set_cons_zero, List.set_cons_succ])
                refine wpAnyH_ready (rs := [4]) (by kernel_rfl) (by simp) ?_
                refine AllReadyH.cons rfl (fun K hK => ?_) AllReadyH.nil
                go_simp
                refine hK.out _ _ ?_ (fun hHeld => ?_)
                · ((try dsimp only); (repeat' apply And.intro); all_goals ((repeat (first | (with_reducible refine cell_drew ?_) | (with_reducible refine cell_drewN _ ?_) | ((with_reducible refine cell_alloc ?_ ?_); · first | omega | (simp; done) | (simp; omega) | assumption) | ((with_reducible refine cell_set ?_ ?_); · first | (intro e; injection e; omega) | (intro e; simp at e; done) | (intro e; simp at e; omega)))); first | assumption | (simp; done)))
                clear hK K
                (try simp only [Act.put, List.setIfInBounds_toArray, List.set_cons_zero, List.set_cons_succ])
                refine wpAnyH_ready (rs := [5]) (by kernel_rfl) (by simp) ?_
                refine AllReadyH.cons rfl (fun K hK => ?_) AllReadyH.nil
                refine step_append_own rfl (.tmp 54) (.tmp 56) 23 rfl wA.heap.size 3 i0 (.int .i64 0) 1 8 Try.underlying23 hi hz0 hz1 hz2 rfl (by decide) _ _ _ rfl (own2.alloc (.cells #[.int .i64 (k : Int)] 3)) ⟨w2.heap.size, 0, none⟩ 1 1 [.int .i64 (k : Int)] rfl rfl (new1 w2 3 (.int .i64 (k : Int))) (int_oneCell [(k : Int)]) hc3 hc4 (by simp; omega) ?_; intro v' w4 hown' hgrow _; have hb4 : Below wA.heap.size wA w4 := bgrow (hb2.alloc s2 (.cells #[.int .i64 (k : Int)] 3)) (own2.alloc (.cells #[.int .i64 (k : Int)] 3)) hgrow (by simp; omega); have e40 : w4.cell? ⟨g, 0, none⟩ = some (.int .i64 x) := (hb4.cell (p := ⟨g, 0, none⟩) hgA).trans cA0; have e41 : w4.cell? ⟨g, 1, none⟩ = some (.int .i64 y) := (hb4.cell (p := ⟨g, 1, none⟩) hgA).trans cA1; obtain ⟨A4, c4, rfl⟩ := own_slice hown'; have HREC := Lib.hid (HIHx.out c4 A4 w4 (HRSl.out.later hb4 (Nat.le_refl _)) (by rw [intCells_append]; exact Rd.of_own hown'))
                refine hK.out _ _ ?_ (fun hHeld => ?_)
                · ((try dsimp only); (repeat' apply And.intro); all_goals ((repeat (first | (with_reducible refine cell_drew ?_) | (with_reducible refine cell_drewN _ ?_) | ((with_reducible refine cell_alloc ?_ ?_); · first | omega | (simp; done) | (simp; omega) | assumption) | ((with_reducible refine cell_set ?_ ?_); · first | (intro e; injection e; omega) | (intro e; simp at e; done) | (intro e; simp at e; omega)))); first | assumption | (simp; done)))
                clear hK K
                (try simp only [Act.put, List.setIfInBounds_toArray, List.set_cons_zero, List.set_cons_succ])
                refine wpAnyH_ready (rs := [12]) (by kernel_rfl) (by simp) ?_
                refine AllReadyH.cons rfl (fun K hK => ?_) AllReadyH.nil
                go_simp
                go_at_call 47; refine (l1Least_min _ _ _).mono ?_; rintro e wx ⟨rfl, rfl⟩
                refine hK.out _ _ ?_ (fun hHeld => ?_)
                · ((try dsimp only); (repeat' apply And.intro); all_goals ((repeat (first | (with_reducible refine cell_drew ?_) | (with_reducible refine cell_drewN _ ?_) | ((with_reducible refine cell_alloc ?_ ?_); · first | omega | (simp; done) | (simp; omega) | assumption) | ((with_reducible refine cell_set ?_ ?_); · first | (intro e; injection e; omega) | (intro e; simp at e; done) | (intro e; simp at e; omega)))); first | assumption | (simp; done)))
                clear hK K
                (try simp only [Act.put, List.setIfInBounds_toArray, List.set_cons_zero, List.set_cons_succ])
                refine wpAnyH_ready (rs := [13]) (by kernel_rfl) (by simp) ?_
                refine AllReadyH.cons rfl (fun K hK => ?_) AllReadyH.nil
                go_simp
                go_at_call 42; refine HREC.out.mono ?_; rintro e w5 ⟨A5, n5, c5, rfl, own5, hb5⟩; have e50 : w5.cell? ⟨g, 0, none⟩ = some (.int .i64 x) := (hb5.cell (p := ⟨g, 0, none⟩) (by have := hb4.size; show g < w4.heap.size; omega)).trans e40; have e51 : w5.cell? ⟨g, 1, none⟩ = some (.int .i64 y) := (hb5.cell (p := ⟨g, 1, none⟩) (by have := hb4.size; show g < w4.heap.size; omega)).trans e41
                refine hK.out _ _ ?_ (fun hHeld => ?_)
                · ((try dsimp only); (repeat' apply And.intro); all_goals ((repeat (first | (with_reducible refine cell_drew ?_) | (with_reducible refine cell_drewN _ ?_) | ((with_reducible refine cell_alloc ?_ ?_); · first | omega | (simp; done) | (simp; omega) | assumption) | ((with_reducible refine cell_set ?_ ?_); · first | (intro e; injection e; omega) | (intro e; simp at e; done) | (intro e; simp at e; omega)))); first | assumption | (simp; done)))
                clear hK K
                (try simp only [Act.put, List.setIfInBounds_toArray, List.set_cons_zero, List.set_cons_succ])
                refine reg_on (i := 14) (d := 51) (v := ?rv14) rfl rfl (by kernel_rfl) (by kernel_rfl) (by kernel_rfl) (fun _ _ _ h => h) (by rfl) ?ry14 (by assumption) ?rr14
                case ry14 => (intro wz hSw; (try dsimp only at hSw); go_simp; try with_reducible rfl)
                (try simp only [Act.put, List.setIfInBounds_toArray, List.set_cons_zero, List.set_cons_succ])
                refine reg_on (i := 15) (d := 66) (v := ?rv15) rfl rfl (by kernel_rfl) (by kernel_rfl) (by kernel_rfl) (fun _ _ _ h => h) (by rfl) ?ry15 (by assumption) ?rr15
                case ry15 => (intro wz hSw; (try dsimp only at hSw); go_simp; try with_reducible rfl)
                (try simp only [Act.put, List.setIfInBounds_toArray, List.set_cons_zero, List.set_cons_succ])
                refine reg_on (i := 16) (d := 67) (v := ?rv16) rfl rfl (by kernel_rfl) (by kernel_rfl) (by kernel_rfl) (fun _ _ _ h => h) (by rfl) ?ry16 (by assumption) ?rr16
                case ry16 => (intro wz hSw; (try dsimp only at hSw); go_simp; try with_reducible rfl)
                (try simp only [Act.put, List.setIfInBounds_toArray, List.set_cons_zero, List.set_cons_succ])
                refine reg_on (i := 17) (d := 68) (v := ?rv17) rfl rfl (by kernel_rfl) (by kernel_rfl) (by kernel_rfl) (fun _ _ _ h => h) (by rfl) ?ry17 (by assumption) ?rr17
                case ry17 => (intro wz hSw; (try dsimp only at hSw); go_simp; try with_reducible rfl)
                (try simp only [Act.put, List.setIfInBounds_toArray, List.set_cons_zero, List.set_cons_succ])
                refine reg_on (i := 18) (d := 16) (v := ?rv18) rfl rfl (by kernel_rfl) (by kernel_rfl) (by kernel_rfl) (fun _ _ _ h => h) (by rfl) ?ry18 (by assumption) ?rr18
                case ry18 => (intro wz hSw; (try dsimp only at hSw); go_simp; try with_reducible rfl)
                (try simp only [Act.put, List.setIfInBounds_toArray, List.set_cons_zero, List.set_cons_succ])
                refine reg_on (i := 19) (d := 17) (v := ?rv19) rfl rfl (by kernel_rfl) (by kernel_rfl) (by kernel_rfl) (fun _ _ _ h => h) (by rfl) ?ry19 (by assumption) ?rr19
                case ry19 => (intro wz hSw; (try dsimp only at hSw); go_simp; try with_reducible rfl)
                (try simp only [Act.put, List.setIfInBounds_toArray, List.set_cons_zero, List.set_cons_succ])
                refine reg_on (i := 20) (d := 18) (v := ?rv20) rfl rfl (by kernel_rfl) (by kernel_rfl) (by kernel_rfl) (fun _ _ _ h => h) (by rfl) ?ry20 (by assumption) ?rr20
                case ry20 => (intro wz hSw; (try dsimp only at hSw); go_simp; try with_reducible rfl)
                (try simp only [Act.put, List.setIfInBounds_toArray, List.set_cons_zero, List.set_cons_succ])
                refine wpAnyH_done (by kernel_rfl) ?_ _
                clear own2 hb2 e20 e21
                have s4 := hb4.size
                have s5 := hb5.size
                have B5 := Lib.hid ((HBX.out.trans (hb4.mono HBX.out.size)).trans (hb5.mono (by have := HBX.out.size; omega)))
                have OX5 := Lib.hid (own_later (own_later HOX.out hb4 (Nat.le_refl _)) hb5 (Nat.le_refl _))
                have hl5 : (fl (b ++ [(k : Int)]) (stkD S f1 (b ++ [(k : Int)]))).length = n5 := by have := own5.1; rw [length_intCells] at this; omega
                have hlk : (fl b (stkK S (f - 1) b k)).length = n' := by have := HOX.out.1; rw [length_intCells] at this; omega
                have hn57 : n5 ≤ 100 := by
                  rcases fl_mem (stkD S f1 (b ++ [(k : Int)])) (b ++ [(k : Int)]) with e | e
                  · rw [← hl5, e]; have := stk_len HSTK.out; have := HLL.out; omega
                  · rw [← hl5]; have := stk_len (stkD_stk _ _ HSTK.out _ e); have := HLL.out; omega
                have OWN5 := Lib.hid (own_base own5 (show w.heap.size ≤ w4.heap.size by have := HBX.out.size; omega))
                have hFL := HFL.out
                rw [hl5, hlk] at hFL
                have HFL2 := Lib.hid hFL
                clear hl5 hlk hFL own5 hb4 hb5
                generalize hle : (stkD S f1 (b ++ [(k : Int)])).length = le at *
                generalize hlk : (stkK S (f - 1) b k).length = lk at *
                generalize hve : hv S (wsum S (b ++ [(k : Int)])) (stkD S f1 (b ++ [(k : Int)])) = ve at *
                generalize hvk : hv S (wsum S b) (stkK S (f - 1) b k) = vk at *
                clear hle hlk hve hvk
                by_cases hlt5 : n' < n5
                · have OWN6 : Hid (w5.ownsRow w.heap.size 3 1 (.slice A5 n5 c5) n5 (intCells (fl b (stkK S (f - 1) b (k + 1))))) := by
                    simp only [Hid]; rw [HFL2.out, if_pos hlt5]; exact OWN5.out
                  go_wp2_with (go_at_call 48; refine (l1Most_max _ _ _).mono ?_; rintro e wx ⟨rfl, rfl⟩)
                  go_roundw
                  case rel => exact ⟨k + 1, A5, n5, c5, by omega, by go_num, rfl, by rw [HHV.out], by rw [HCT.out]; go_num, OWN6.out, hn57, B5.out⟩
                  case measure => simp [intOf]; omega
                · have OWN6 : Hid (w5.ownsRow w.heap.size 3 1 (.slice A' n' c') n' (intCells (fl b (stkK S (f - 1) b (k + 1))))) := by
                    simp only [Hid]; rw [HFL2.out, if_neg hlt5]; exact OX5.out
                  go_wp2_with (go_at_call 48; refine (l1Most_max _ _ _).mono ?_; rintro e wx ⟨rfl, rfl⟩)
                  go_roundw
                  case rel => exact ⟨k + 1, A', n', c', by omega, by go_num, rfl, by rw [HHV.out], by rw [HCT.out]; go_num, OWN6.out, hn1, B5.out⟩
                  case measure => simp [intOf]; omega

              · go_simp
                have n1 : ∀ (j : Nat) (z : Value), [Value.int .i64 (k : Int)][j]? = some z → (wA.alloc (.cells #[.int .i64 (k : Int)] 3)).drew.cell? ((⟨wA.heap.size, 0, none⟩ : Addr).add j) = some z := new1 wA 3 (.int .i64 (k : Int))
                have e10 : (wA.alloc (.cells #[.int .i64 (k : Int)] 3)).drew.cell? ⟨g, 0, none⟩ = some (.int .i64 x) := (World.cell?_alloc_lt _ _ ⟨g, 0, none⟩ hgA).trans cA0
                have e11 : (wA.alloc (.cells #[.int .i64 (k : Int)] 3)).drew.cell? ⟨g, 1, none⟩ = some (.int .i64 y) := (World.cell?_alloc_lt _ _ ⟨g, 1, none⟩ hgA).trans cA1
                have hbA : Below wA.heap.size wA (wA.alloc (.cells #[.int .i64 (k : Int)] 3)).drew := ((Below.refl wA.heap.size wA).alloc (Nat.le_refl _) _).drew
                have szA : (wA.alloc (.cells #[.int .i64 (k : Int)] 3)).drew.heap.size = wA.heap.size + 1 := by show (wA.alloc (.cells #[.int .i64 (k : Int)] 3)).heap.size = _; simp
                have HCL2 := Lib.hid (l1OwnN_any Ab m cb b (wA.alloc (.cells #[.int .i64 (k : Int)] 3)).drew (hrA.later hbA (Nat.le_refl _)) hm0 (by omega))
                refine hK.out _ _ ?_ (fun hHeld => ?_)
                · exact ⟨e10, e11⟩
                clear hK K
                (try simp only [Act.put, List.setIfInBounds_toArray, List.set_cons_zero, List.set_cons_succ])
                refine wpAnyH_ready (rs := [2]) (by kernel_rfl) (by simp) ?_
                refine AllReadyH.cons rfl (fun K hK => ?_) AllReadyH.nil
                go_simp
                go_at_call 46; refine HCL2.out.mono ?_; rintro e w2 ⟨A2, cA, rfl, own2, hb2⟩; have s2 : wA.heap.size + 1 ≤ w2.heap.size := (by have q := hb2.size; rw [szA] at q; exact q); have hb12 := hbA.trans (hb2.mono (by rw [szA]; omega)); have own2' := own_base own2 (B' := wA.heap.size) (by rw [szA]; omega); have e20 : w2.cell? ⟨g, 0, none⟩ = some (.int .i64 x) := (hb12.cell (p := ⟨g, 0, none⟩) hgA).trans cA0; have e21 : w2.cell? ⟨g, 1, none⟩ = some (.int .i64 y) := (hb12.cell (p := ⟨g, 1, none⟩) hgA).trans cA1; have n2 : ∀ (j : Nat) (z : Value), [Value.int .i64 (k : Int)][j]? = some z → w2.cell? ((⟨wA.heap.size, 0, none⟩ : Addr).add j) = some z := (fun j z hz => (hb2.cell (by rw [addr_add]; show wA.heap.size < _; rw [szA]; omega)).trans (n1 j z hz))
                refine hK.out _ _ ?_ (fun hHeld => ?_)
                · ((try dsimp only); (repeat' apply And.intro); all_goals ((repeat (first | (with_reducible refine cell_drew ?_) | (with_reducible refine cell_drewN _ ?_) | ((with_reducible refine cell_alloc ?_ ?_); · first | omega | (simp; done) | (simp; omega) | assumption) | ((with_reducible refine cell_set ?_ ?_); · first | (intro e; injection e; omega) | (intro e; simp at e; done) | (intro e; simp at e; omega)))); first | assumption | (simp; done)))
                clear hK K
                (try simp only [Act.put, List.setIfInBounds_toArray, List.set_cons_zero, List.set_cons_succ])
                refine wpAnyH_ready (rs := [5]) (by kernel_rfl) (by simp) ?_
                refine AllReadyH.cons rfl (fun K hK => ?_) AllReadyH.nil
                refine step_append_own rfl (.tmp 54) (.tmp 56) 23 rfl wA.heap.size 3 i0 (.int .i64 0) 1 8 Try.underlying23 hi hz0 hz1 hz2 rfl (by decide) _ _ _ rfl own2' ⟨wA.heap.size, 0, none⟩ 1 1 [.int .i64 (k : Int)] rfl rfl n2 (int_oneCell [(k : Int)]) hc3 hc4 (by omega) ?_; intro v' w4 hown' hgrow _; have hb4 : Below wA.heap.size wA w4 := bgrow hb12 own2' hgrow (by omega); have e40 : w4.cell? ⟨g, 0, none⟩ = some (.int .i64 x) := (hb4.cell (p := ⟨g, 0, none⟩) hgA).trans cA0; have e41 : w4.cell? ⟨g, 1, none⟩ = some (.int .i64 y) := (hb4.cell (p := ⟨g, 1, none⟩) hgA).trans cA1; obtain ⟨A4, c4, rfl⟩ := own_slice hown'; have HREC := Lib.hid (HIHx.out c4 A4 w4 (HRSl.out.later hb4 (Nat.le_refl _)) (by rw [intCells_append]; exact Rd.of_own hown'))
                refine hK.out _ _ ?_ (fun hHeld => ?_)
                · ((try dsimp only); (repeat' apply And.intro); all_goals ((repeat (first | (with_reducible refine cell_drew ?_) | (with_reducible refine cell_drewN _ ?_) | ((with_reducible refine cell_alloc ?_ ?_); · first | omega | (simp; done) | (simp; omega) | assumption) | ((with_reducible refine cell_set ?_ ?_); · first | (intro e; injection e; omega) | (intro e; simp at e; done) | (intro e; simp at e; omega)))); first | assumption | (simp; done)))
                clear hK K
                (try simp only [Act.put, List.setIfInBounds_toArray, List.set_cons_zero, List.set_cons_succ])
                refine wpAnyH_ready (rs := [12]) (by kernel_rfl) (by simp) ?_
                refine AllReadyH.cons rfl (fun K hK => ?_) AllReadyH.nil
                go_simp
                go_at_call 47; refine (l1Least_min _ _ _).mono ?_; rintro e wx ⟨rfl, rfl⟩
                refine hK.out _ _ ?_ (fun hHeld => ?_)
                · ((try dsimp only); (repeat' apply And.intro); all_goals ((repeat (first | (with_reducible refine cell_drew ?_) | (with_reducible refine cell_drewN _ ?_) | ((with_reducible refine cell_alloc ?_ ?_); · first | omega | (simp; done) | (simp; omega) | assumption) | ((with_reducible refine cell_set ?_ ?_); · first | (intro e; injection e; omega) | (intro e; simp at e; done) | (intro e; simp at e; omega)))); first | assumption | (simp; done)))
                clear hK K
                (try simp only [Act.put, List.setIfInBounds_toArray, List.set_cons_zero, List.set_cons_succ])
                refine wpAnyH_ready (rs := [13]) (by kernel_rfl) (by simp) ?_
                refine AllReadyH.cons rfl (fun K hK => ?_) AllReadyH.nil
                go_simp
                go_at_call 42; refine HREC.out.mono ?_; rintro e w5 ⟨A5, n5, c5, rfl, own5, hb5⟩; have e50 : w5.cell? ⟨g, 0, none⟩ = some (.int .i64 x) := (hb5.cell (p := ⟨g, 0, none⟩) (by have := hb4.size; show g < w4.heap.size; omega)).trans e40; have e51 : w5.cell? ⟨g, 1, none⟩ = some (.int .i64 y) := (hb5.cell (p := ⟨g, 1, none⟩) (by have := hb4.size; show g < w4.heap.size; omega)).trans e41
                refine hK.out _ _ ?_ (fun hHeld => ?_)
                · ((try dsimp only); (repeat' apply And.intro); all_goals ((repeat (first | (with_reducible refine cell_drew ?_) | (with_reducible refine cell_drewN _ ?_) | ((with_reducible refine cell_alloc ?_ ?_); · first | omega | (simp; done) | (simp; omega) | assumption) | ((with_reducible refine cell_set ?_ ?_); · first | (intro e; injection e; omega) | (intro e; simp at e; done) | (intro e; simp at e; omega)))); first | assumption | (simp; done)))
                clear hK K
                (try simp only [Act.put, List.setIfInBounds_toArray, List.set_cons_zero, List.set_cons_succ])
                refine reg_on (i := 14) (d := 51) (v := ?rv25) rfl rfl (by kernel_rfl) (by kernel_rfl) (by kernel_rfl) (fun _ _ _ h => h) (by rfl) ?ry25 (by assumption) ?rr25
                case ry25 => (intro wz hSw; (try dsimp only at hSw); go_simp; try with_reducible rfl)
                (try simp only [Act.put, List.setIfInBounds_toArray, List.set_cons_zero, List.set_cons_succ])
                refine reg_on (i := 15) (d := 66) (v := ?rv26) rfl rfl (by kernel_rfl) (by kernel_rfl) (by kernel_rfl) (fun _ _ _ h => h) (by rfl) ?ry26 (by assumption) ?rr26
                case ry26 => (intro wz hSw; (try dsimp only at hSw); go_simp; try with_reducible rfl)
                (try simp only [Act.put, List.setIfInBounds_toArray, List.set_cons_zero, List.set_cons_succ])
                refine reg_on (i := 16) (d := 67) (v := ?rv27) rfl rfl (by kernel_rfl) (by kernel_rfl) (by kernel_rfl) (fun _ _ _ h => h) (by rfl) ?ry27 (by assumption) ?rr27
                case ry27 => (intro wz hSw; (try dsimp only at hSw); go_simp; try with_reducible rfl)
                (try simp only [Act.put, List.setIfInBounds_toArray, List.set_cons_zero, List.set_cons_succ])
                refine reg_on (i := 17) (d := 68) (v := ?rv28) rfl rfl (by kernel_rfl) (by kernel_rfl) (by kernel_rfl) (fun _ _ _ h => h) (by rfl) ?ry28 (by assumption) ?rr28
                case ry28 => (intro wz hSw; (try dsimp only at hSw); go_simp; try with_reducible rfl)
                (try simp only [Act.put, List.setIfInBounds_toArray, List.set_cons_zero, List.set_cons_succ])
                refine reg_on (i := 18) (d := 16) (v := ?rv29) rfl rfl (by kernel_rfl) (by kernel_rfl) (by kernel_rfl) (fun _ _ _ h => h) (by rfl) ?ry29 (by assumption) ?rr29
                case ry29 => (intro wz hSw; (try dsimp only at hSw); go_simp; try with_reducible rfl)
                (try simp only [Act.put, List.setIfInBounds_toArray, List.set_cons_zero, List.set_cons_succ])
                refine reg_on (i := 19) (d := 17) (v := ?rv30) rfl rfl (by kernel_rfl) (by kernel_rfl) (by kernel_rfl) (fun _ _ _ h => h) (by rfl) ?ry30 (by assumption) ?rr30
                case ry30 => (intro wz hSw; (try dsimp only at hSw); go_simp; try with_reducible rfl)
                (try simp only [Act.put, List.setIfInBounds_toArray, List.set_cons_zero, List.set_cons_succ])
                refine reg_on (i := 20) (d := 18) (v := ?rv31) rfl rfl (by kernel_rfl) (by kernel_rfl) (by kernel_rfl) (fun _ _ _ h => h) (by rfl) ?ry31 (by assumption) ?rr31
                case ry31 => (intro wz hSw; (try dsimp only at hSw); go_simp; try with_reducible rfl)
                (try simp only [Act.put, List.setIfInBounds_toArray, List.set_cons_zero, List.set_cons_succ])
                refine wpAnyH_done (by kernel_rfl) ?_ _
                clear own2 own2' hb2 hb12 e20 e21 n1 n2 e10 e11 hbA szA HCL2
                have s4 := hb4.size
                have s5 := hb5.size
                have B5 := Lib.hid ((HBX.out.trans (hb4.mono HBX.out.size)).trans (hb5.mono (by have := HBX.out.size; omega)))
                have OX5 := Lib.hid (own_later (own_later HOX.out hb4 (Nat.le_refl _)) hb5 (Nat.le_refl _))
                have hl5 : (fl (b ++ [(k : Int)]) (stkD S f1 (b ++ [(k : Int)]))).length = n5 := by have := own5.1; rw [length_intCells] at this; omega
                have hlk : (fl b (stkK S (f - 1) b k)).length = n' := by have := HOX.out.1; rw [length_intCells] at this; omega
                have hn57 : n5 ≤ 100 := by
                  rcases fl_mem (stkD S f1 (b ++ [(k : Int)])) (b ++ [(k : Int)]) with e | e
                  · rw [← hl5, e]; have := stk_len HSTK.out; have := HLL.out; omega
                  · rw [← hl5]; have := stk_len (stkD_stk _ _ HSTK.out _ e); have := HLL.out; omega
                have OWN5 := Lib.hid (own_base own5 (show w.heap.size ≤ w4.heap.size by have := HBX.out.size; omega))
                have hFL := HFL.out
                rw [hl5, hlk] at hFL
                have HFL2 := Lib.hid hFL
                clear hl5 hlk hFL own5 hb4 hb5
                generalize hle : (stkD S f1 (b ++ [(k : Int)])).length = le at *
                generalize hlk : (stkK S (f - 1) b k).length = lk at *
                generalize hve : hv S (wsum S (b ++ [(k : Int)])) (stkD S f1 (b ++ [(k : Int)])) = ve at *
                generalize hvk : hv S (wsum S b) (stkK S (f - 1) b k) = vk at *
                clear hle hlk hve hvk
                by_cases hlt5 : n' < n5
                · have OWN6 : Hid (w5.ownsRow w.heap.size 3 1 (.slice A5 n5 c5) n5 (intCells (fl b (stkK S (f - 1) b (k + 1))))) := by
                    simp only [Hid]; rw [HFL2.out, if_pos hlt5]; exact OWN5.out
                  go_wp2_with (go_at_call 48; refine (l1Most_max _ _ _).mono ?_; rintro e wx ⟨rfl, rfl⟩)
                  go_roundw
                  case rel => exact ⟨k + 1, A5, n5, c5, by omega, by go_num, rfl, by rw [HHV.out], by rw [HCT.out]; go_num, OWN6.out, hn57, B5.out⟩
                  case measure => simp [intOf]; omega
                · have OWN6 : Hid (w5.ownsRow w.heap.size 3 1 (.slice A' n' c') n' (intCells (fl b (stkK S (f - 1) b (k + 1))))) := by
                    simp only [Hid]; rw [HFL2.out, if_neg hlt5]; exact OX5.out
                  go_wp2_with (go_at_call 48; refine (l1Most_max _ _ _).mono ?_; rintro e wx ⟨rfl, rfl⟩)
                  go_roundw
                  case rel => exact ⟨k + 1, A', n', c', by omega, by go_num, rfl, by rw [HHV.out], by rw [HCT.out]; go_num, OWN6.out, hn1, B5.out⟩
                  case measure => simp [intOf]; omega

            · have hno : stk S (b ++ [(k : Int)]) = false := by
                cases e : stk S (b ++ [(k : Int)])
                · rfl
                · exact absurd ⟨hasI_not.2 ((HNX.out.1 e).1), (HNX.out.1 e).2⟩ hgo
              have HE2 : Hid (stkK S (f - 1) b (k + 1) = stkK S (f - 1) b k) := by
                simp only [Hid]; rw [HE.out, hno]; simp
              cases hh : hasI b (k : Int)
              · have hd : decide (room < x) = true := by have h9 : ¬ x ≤ room := fun h => hgo ⟨hh, h⟩; simp; omega
                clear HE HNX hno hgo
                go_wp2_with (go_at_call 38; refine (HHAS.out _ (HRB.out _)).mono ?_; rintro e wx ⟨rfl, rfl⟩; rw [hh])
                go_roundw
                case rel => exact ⟨k + 1, A', n', c', by omega, by go_num, rfl, by rw [HE2.out], by rw [HE2.out], by rw [HE2.out]; exact HOX.out, hn1, HBX.out⟩
                case measure => simp [intOf]; omega
              · clear HE HNX hno hgo
                go_wp2_with (go_at_call 38; refine (HHAS.out _ (HRB.out _)).mono ?_; rintro e wx ⟨rfl, rfl⟩; rw [hh])
                go_roundw
                case rel => exact ⟨k + 1, A', n', c', by omega, by go_num, rfl, by rw [HE2.out], by rw [HE2.out], by rw [HE2.out]; exact HOX.out, hn1, HBX.out⟩
                case measure => simp [intOf]; omega
          · have hkn : k = n := by omega
            have HEE : Hid (stkK S (f - 1) b k = stkD S f b) := by simp only [Hid]; rw [hkn, ← HLL.out]; exact HF.out
            rw [HEE.out] at hown
            rw [HEE.out]
            have HOWN := Lib.hid hown
            have HB := Lib.hid hB
            clear hown hB
            go_wp2
            go_ret3
            exact ⟨A', n', c', rfl, HOWN.out, HB.out⟩

end Go.Proofs.Ytkijcpbjjbhnhab
