/-
  Contracts: GridFor of the program and of the model. Conditions: none.
-/
import Derived.Test.YtcggiekhlophlabPralW
import Derived.Test.YtcggiekhlophlabWords
namespace Go.Proofs.Ytcggiekhlophlab
open Go.RowKit
set_option linter.unusedVariables false
set_option linter.unusedSimpArgs false

def colN (p r : Nat) : Nat := (p + r - 1) / r
theorem colN_le (p r : Nat) : colN p r ≤ p + r := Nat.le_trans (Nat.div_le_self _ _) (by omega)
theorem colN_iff {p r : Nat} (hr : 1 ≤ r) : r ≤ colN p r ↔ r * r ≤ p + r - 1 := by
  unfold colN; exact Nat.le_div_iff_mul_le (by omega)
theorem colN_one (p : Nat) : colN p 1 = p := by simp [colN]

/-- the best of the rows 1 to k + 1 -/
def gb (p : Nat) : Nat → Nat × Nat
  | 0 => (1, p)
  | k + 1 => if k + 2 + colN p (k + 2) < (gb p k).1 + (gb p k).2 then (k + 2, colN p (k + 2)) else gb p k
theorem gb_succ (p k : Nat) : gb p (k + 1) = if k + 2 + colN p (k + 2) < (gb p k).1 + (gb p k).2 then (k + 2, colN p (k + 2)) else gb p k := rfl
theorem gb_le (p : Nat) : ∀ k, 1 ≤ (gb p k).1 ∧ (gb p k).1 ≤ k + 1 ∧ (gb p k).2 ≤ p + k + 1
  | 0 => by simp [gb]
  | k + 1 => by
    have h := gb_le p k
    have h2 := colN_le p (k + 2)
    rw [gb_succ]
    split
    · exact ⟨by omega, by omega, by show colN p (k + 2) ≤ _; omega⟩
    · omega
def gEnd (p : Nat) : Nat := lst (fun k => decide (colN p (k + 2) < k + 2)) 40 0
theorem gEnd_eq {p k : Nat} (hk : k ≤ 40) (h1 : ∀ j, j < k → j + 2 ≤ colN p (j + 2)) (h2 : ¬ k + 2 ≤ colN p (k + 2)) : gEnd p = k := by
  unfold gEnd
  exact lst_eq _ 40 0 k (by omega) (by omega) (fun j _ hj => by have := h1 j hj; simp; omega) (fun _ => by simp; omega)
theorem grid_stop {p k : Nat} (hp : p ≤ 1000) (h : k + 2 ≤ colN p (k + 2)) : k < 40 := by
  rw [colN_iff (by omega)] at h
  by_cases e : k < 40
  · exact e
  · have : 42 * (k + 2) ≤ (k + 2) * (k + 2) := Nat.mul_le_mul_right _ (by omega)
    omega
def gdR (p : Int) : Int := if inB p 1 1000 then ((gb p.toNat (gEnd p.toNat)).1 : Nat) else 0
def gdC (p : Int) : Int := if inB p 1 1000 then ((gb p.toNat (gEnd p.toNat)).2 : Nat) else 0

set_option maxHeartbeats 400000 in
theorem upToG_any (n m : Int) (w : World) :
    Calls Try.prog 14 #[.int .i64 n, .int .i64 m] w fun e w' => e = .returned (.bool (inB n 1 m)) ∧ w = w' := by
  by_cases h1 : 1 ≤ n <;> by_cases h2 : n ≤ m
  all_goals
    go_enter Try.func14, Try.ntmps14
    go_wp2
    go_ret
    exact ⟨by simp [inB, h1, h2], rfl⟩
set_option maxHeartbeats 400000 in
theorem columns_any (p r : Nat) (hp : p ≤ 1000) (h1 : 1 ≤ r) (hr : r ≤ 50) (w : World) :
    Calls Try.prog 18 #[.int .i64 p, .int .i64 r] w fun e w' => e = .returned (.int .i64 (colN p r : Nat)) ∧ w = w' := by
  have e1 : ((p : Int) + (r : Int) - 1) / (r : Int) = (colN p r : Nat) := by
    unfold colN
    rw [Int.natCast_ediv]
    congr 1; omega
  have e2 : ((p : Int) + (r : Int) - 1).tdiv (r : Int) = (colN p r : Nat) := by rw [Int.tdiv_eq_ediv_of_nonneg (by omega), e1]
  have hq := colN_le p r
  have E1 := Lib.hid e1
  generalize colN p r = q at *
  clear e1
  have e3 : wrap64 (q : Int) = (q : Int) := IntWalk.wrap64_in _ (by omega)
  go_enter Try.func18, Try.ntmps18
  go_wp2
  go_ret
  exact ⟨rfl, rfl⟩

set_option maxRecDepth 100000 in
set_option maxHeartbeats 2000000 in
theorem grid_any (p : Int) (w : World) :
    Calls Try.prog 11 #[.int .i64 p] w fun e w' => e = .returned (.tuple #[.int .i64 (gdR p), .int .i64 (gdC p), .bool (inB p 1 1000)]) ∧ Below w.heap.size w w' := by
  cases h : inB p 1 1000
  · rw [show gdR p = 0 by simp [gdR, h], show gdC p = 0 by simp [gdC, h]]
    go_enter Try.func11, Try.ntmps11
    go_wp2_with (go_at_call 14; refine (upToG_any _ _ _).mono ?_; rintro e wx ⟨rfl, rfl⟩; rw [h])
    go_ret3
    exact ⟨rfl, Below.refl _ _⟩
  · obtain ⟨P, rfl, p1, p2⟩ := inB_nat (m := 1000) h
    rw [show gdR (P : Int) = ((gb P (gEnd P)).1 : Nat) by simp [gdR, h], show gdC (P : Int) = ((gb P (gEnd P)).2 : Nat) by simp [gdC, h]]
    have HP2 := Lib.hid p2
    clear p2
    go_enter Try.func11, Try.ntmps11
    go_wp2_with (go_at_call 14; refine (upToG_any _ _ _).mono ?_; rintro e wx ⟨rfl, rfl⟩; rw [h])
    go_loop [5, 6, 7] (fun b c i => ∃ k : Nat, k ≤ 40 ∧ i = .int .i64 ((k : Int) + 2) ∧ b = .int .i64 ((gb P k).1 : Nat) ∧ c = .int .i64 ((gb P k).2 : Nat) ∧ Hid (∀ j, j < k → j + 2 ≤ colN P (j + 2))) (fun _ _ i => 50 - (intOf i).toNat)
    case atStart => exact ⟨0, Nat.zero_le _, rfl, rfl, rfl, fun j hj => by omega⟩
    case round =>
      obtain ⟨k, hk, rfl, rfl, rfl, hj⟩ := hrel
      have HC := Lib.hid (fun wx => columns_any P (k + 2) HP2.out (by omega) (by omega) wx)
      have hgb := gb_le P k
      have hcl := colN_le P (k + 2)
      have hP := HP2.out
      by_cases hlt : k + 2 ≤ colN P (k + 2)
      · have hk40 := grid_stop HP2.out hlt
        have hj2 : Hid (∀ j, j < k + 1 → j + 2 ≤ colN P (j + 2)) := fun j hjj => by
          by_cases e : j = k
          · rw [e]; exact hlt
          · exact hj.out j (by omega)
        have HG := Lib.hid (gb_succ P k)
        have hli : (k : Int) + 2 ≤ (colN P (k + 2) : Nat) := by omega
        by_cases hb : k + 2 + colN P (k + 2) < (gb P k).1 + (gb P k).2
        · rw [if_pos hb] at HG
          have hbi : (k : Int) + 2 + (colN P (k + 2) : Nat) < ((gb P k).1 : Nat) + ((gb P k).2 : Nat) := by omega
          clear hlt hj hb
          generalize colN P (k + 2) = c at *
          generalize (gb P k).1 = x at *
          generalize (gb P k).2 = y at *
          go_wp2_with (go_at_call 18; refine (HC.out _).mono ?_; rintro e wx ⟨rfl, rfl⟩)
          go_round
          case rel => exact ⟨k + 1, by omega, by go_num, by rw [HG.out]; go_num, by rw [HG.out], hj2⟩
          case measure => simp [intOf]; omega
        · rw [if_neg hb] at HG
          have hbi : ¬ (k : Int) + 2 + (colN P (k + 2) : Nat) < ((gb P k).1 : Nat) + ((gb P k).2 : Nat) := by omega
          clear hlt hj hb
          generalize colN P (k + 2) = c at *
          have HG1 : Hid ((gb P (k + 1)).1 = (gb P k).1 ∧ (gb P (k + 1)).2 = (gb P k).2) := by simp only [Hid]; rw [HG.out]; exact ⟨rfl, rfl⟩
          generalize (gb P k).1 = x at *
          generalize (gb P k).2 = y at *
          go_wp2_with (go_at_call 18; refine (HC.out _).mono ?_; rintro e wx ⟨rfl, rfl⟩)
          go_round
          case rel => exact ⟨k + 1, by omega, by go_num, by rw [HG1.out.1], by rw [HG1.out.2], hj2⟩
          case measure => simp [intOf]; omega
      · have HT := Lib.hid (gEnd_eq hk hj.out hlt)
        have hli : ¬ (k : Int) + 2 ≤ (colN P (k + 2) : Nat) := by omega
        clear hlt hj
        generalize colN P (k + 2) = c at HC hli hcl
        go_wp2_with (go_at_call 18; refine (HC.out _).mono ?_; rintro e wx ⟨rfl, rfl⟩)
        go_ret3
        exact ⟨by rw [HT.out]; rfl, Below.refl _ _⟩

set_option maxHeartbeats 400000 in
theorem bxWeighedG_any (n : Int) (w : World) :
    Calls Try.prog 12 #[.int .i64 n] w fun e w' => e = .returned (.bool (inB n 1 1000)) ∧ w = w' := by
  go_enter Try.func12, Try.ntmps12
  go_wp2_with (go_at_call 19; refine (l1In_any _ _ _ _).mono ?_; rintro e wx ⟨rfl, rfl⟩)
  go_ret
  exact ⟨rfl, rfl⟩

/-- the model's way: the rows m, the best rows and columns up to now -/
def gRel (P m x y : Nat) : Prop := (m = 1 ∧ x = 0 ∧ y = 0) ∨ (∃ k, k ≤ 40 ∧ m = k + 2 ∧ x = (gb P k).1 ∧ y = (gb P k).2 ∧ (∀ j, j < k → j + 2 ≤ colN P (j + 2))) ∨ (∃ k, k ≤ 40 ∧ m = k + 3 ∧ x = (gb P k).1 ∧ y = (gb P k).2 ∧ gEnd P = k ∧ ¬ k + 2 ≤ colN P (k + 2))
theorem gRel_le {P m x y : Nat} (h : gRel P m x y) : 1 ≤ m ∧ m ≤ 43 ∧ x ≤ m ∧ y ≤ P + m ∧ (x = 0 ↔ m = 1) := by
  rcases h with ⟨rfl, rfl, rfl⟩ | ⟨k, hk, rfl, rfl, rfl, _⟩ | ⟨k, hk, rfl, rfl, rfl, _⟩
  · omega
  · have := gb_le P k; omega
  · have := gb_le P k; omega
/-- behind the loop -/
theorem gRel_end {P m x y : Nat} (hP1 : 1 ≤ P) (h : gRel P m x y) (hm : ¬ m * m ≤ P + m) : x = (gb P (gEnd P)).1 ∧ y = (gb P (gEnd P)).2 := by
  rcases h with ⟨rfl, rfl, rfl⟩ | ⟨k, hk, rfl, rfl, rfl, hj⟩ | ⟨k, hk, rfl, rfl, rfl, he, _⟩
  · omega
  · have : gEnd P = k := gEnd_eq hk hj (by rw [colN_iff (by omega)]; omega)
    rw [this]; exact ⟨rfl, rfl⟩
  · rw [he]; exact ⟨rfl, rfl⟩
/-- one round: the columns c of m rows -/
theorem gRel_new {P m x y : Nat} (hP : P ≤ 1000) (h : gRel P m x y) (hm : m * m ≤ P + m) (h1 : m ≤ colN P m) (h2 : x = 0 ∨ m + colN P m < x + y) : gRel P (m + 1) m (colN P m) := by
  rcases h with ⟨rfl, rfl, rfl⟩ | ⟨k, hk, rfl, rfl, rfl, hj⟩ | ⟨k, hk, rfl, rfl, rfl, he, hn⟩
  · exact .inr (.inl ⟨0, by omega, rfl, rfl, colN_one P, fun j hj => by omega⟩)
  · have hg := gb_le P k
    have h3 : k + 2 + colN P (k + 2) < (gb P k).1 + (gb P k).2 := by omega
    refine .inr (.inl ⟨k + 1, grid_stop hP h1, rfl, by rw [gb_succ, if_pos h3], by rw [gb_succ, if_pos h3], fun j hjk => ?_⟩)
    by_cases e : j = k
    · rw [e]; exact h1
    · exact hj j (by omega)
  · rw [colN_iff (by omega)] at hn
    have : (k + 3) * (k + 3) = (k + 2) * (k + 2) + 2 * (k + 2) + 1 := by simp only [Nat.add_mul, Nat.mul_add]; omega
    omega
theorem gRel_old {P m x y : Nat} (hP1 : 1 ≤ P) (hP : P ≤ 1000) (h : gRel P m x y) (hm : m * m ≤ P + m) (h1 : ¬ (m ≤ colN P m ∧ (x = 0 ∨ m + colN P m < x + y))) : gRel P (m + 1) x y := by
  rcases h with ⟨rfl, rfl, rfl⟩ | ⟨k, hk, rfl, rfl, rfl, hj⟩ | ⟨k, hk, rfl, rfl, rfl, he, hn⟩
  · exact absurd ⟨by rw [colN_one]; exact hP1, .inl rfl⟩ h1
  · by_cases e : k + 2 ≤ colN P (k + 2)
    · have h3 : ¬ k + 2 + colN P (k + 2) < (gb P k).1 + (gb P k).2 := fun h => h1 ⟨e, .inr h⟩
      refine .inr (.inl ⟨k + 1, grid_stop hP e, rfl, by rw [gb_succ, if_neg h3], by rw [gb_succ, if_neg h3], fun j hjk => ?_⟩)
      by_cases e2 : j = k
      · rw [e2]; exact e
      · exact hj j (by omega)
    · exact .inr (.inr ⟨k, hk, rfl, rfl, rfl, gEnd_eq hk hj e, e⟩)
  · rw [colN_iff (by omega)] at hn
    have : (k + 3) * (k + 3) = (k + 2) * (k + 2) + 2 * (k + 2) + 1 := by simp only [Nat.add_mul, Nat.mul_add]; omega
    omega

set_option maxRecDepth 100000 in
set_option maxHeartbeats 2000000 in
theorem sGrid_any (p : Int) (w : World) :
    Calls Try.prog 10 #[.int .i64 p] w fun e w' => e = .returned (.tuple #[.int .i64 (gdR p), .int .i64 (gdC p), .bool (inB p 1 1000)]) ∧ Below w.heap.size w w' := by
  cases h : inB p 1 1000
  · rw [show gdR p = 0 by simp [gdR, h], show gdC p = 0 by simp [gdC, h]]
    go_enter Try.func10, Try.ntmps10
    go_wp2_with (go_at_call 12; refine (bxWeighedG_any _ _).mono ?_; rintro e wx ⟨rfl, rfl⟩; rw [h])
    go_ret3
    exact ⟨rfl, Below.refl _ _⟩
  · obtain ⟨P, rfl, p1, p2⟩ := inB_nat (m := 1000) h
    rw [show gdR (P : Int) = ((gb P (gEnd P)).1 : Nat) by simp [gdR, h], show gdC (P : Int) = ((gb P (gEnd P)).2 : Nat) by simp [gdC, h]]
    have HP2 := Lib.hid p2
    clear p2
    go_enter Try.func10, Try.ntmps10
    go_wp2_with (go_at_call 12; refine (bxWeighedG_any _ _).mono ?_; rintro e wx ⟨rfl, rfl⟩; rw [h])
    go_loop [5, 6, 7] (fun b c i => ∃ m x y : Nat, i = .int .i64 (m : Int) ∧ b = .int .i64 (x : Int) ∧ c = .int .i64 (y : Int) ∧ Hid (gRel P m x y)) (fun _ _ i => 50 - (intOf i).toNat)
    case atStart => exact ⟨1, 0, 0, rfl, rfl, rfl, .inl ⟨rfl, rfl, rfl⟩⟩
    case round =>
      obtain ⟨m, x, y, rfl, rfl, rfl, hR⟩ := hrel
      obtain ⟨m1, m2, x1, y1, xz⟩ := gRel_le hR.out
      have hP := HP2.out
      obtain ⟨s, hs⟩ : ∃ s, s = m * m := ⟨_, rfl⟩
      have hsi : wrap64 ((m : Int) * (m : Int)) = (s : Int) := by
        have : (m : Int) * (m : Int) = (s : Int) := by rw [hs]; push_cast; rfl
        have : s ≤ 43 * 43 := by rw [hs]; exact Nat.mul_le_mul m2 m2
        rw [‹(m : Int) * (m : Int) = (s : Int)›]
        exact IntWalk.wrap64_in _ (by omega)
      have hsi2 : (m : Int) * (m : Int) = (s : Int) := by rw [hs]; push_cast; rfl
      have HS := Lib.hid hs
      clear hs
      by_cases hlt : s ≤ P + m
      · have hmm : Hid (m * m ≤ P + m) := by simp only [Hid]; rw [← HS.out]; exact hlt
        have hli : (s : Int) ≤ (P : Int) + (m : Int) := by omega
        have hcl := colN_le P m
        have e1 : ((P : Int) + (m : Int) - 1) / (m : Int) = (colN P m : Nat) := by
          unfold colN
          rw [Int.natCast_ediv]
          congr 1; omega
        have e2 : ((P : Int) + (m : Int) - 1).tdiv (m : Int) = (colN P m : Nat) := by rw [Int.tdiv_eq_ediv_of_nonneg (by omega), e1]
        clear e1
        have e3 : wrap64 ((colN P m : Nat) : Int) = ((colN P m : Nat) : Int) := IntWalk.wrap64_in _ (by omega)
        by_cases h1 : m ≤ colN P m
        · by_cases hx : x = 0
          · have HN := Lib.hid (gRel_new hP hR.out hmm.out h1 (.inl hx))
            have h1i : (m : Int) ≤ (colN P m : Nat) := by omega
            have hxi : ((x : Int) == 0) = true := by simp; omega
            clear hlt hR h1
            generalize colN P m = c at *
            go_wp2
            go_round
            case rel => exact ⟨m + 1, m, c, by go_num, rfl, rfl, HN.out⟩
            case measure => simp [intOf]; omega
          · have hxi : ((x : Int) == 0) = false := by simp; omega
            have h1i : (m : Int) ≤ (colN P m : Nat) := by omega
            by_cases hb : m + colN P m < x + y
            · have HN := Lib.hid (gRel_new hP hR.out hmm.out h1 (.inr hb))
              have hbi : (m : Int) + (colN P m : Nat) < (x : Int) + (y : Int) := by omega
              clear hlt hR h1 hb hx
              generalize colN P m = c at *
              go_wp2
              go_round
              case rel => exact ⟨m + 1, m, c, by go_num, rfl, rfl, HN.out⟩
              case measure => simp [intOf]; omega
            · have HN := Lib.hid (gRel_old p1 hP hR.out hmm.out (fun h => by rcases h.2 with q | q <;> omega))
              have hbi : ¬ (m : Int) + (colN P m : Nat) < (x : Int) + (y : Int) := by omega
              clear hlt hR h1 hb hx
              generalize colN P m = c at *
              go_wp2
              go_round
              case rel => exact ⟨m + 1, x, y, by go_num, rfl, rfl, HN.out⟩
              case measure => simp [intOf]; omega
        · have HN := Lib.hid (gRel_old p1 hP hR.out hmm.out (fun h => h1 h.1))
          have h1i : ¬ (m : Int) ≤ (colN P m : Nat) := by omega
          clear hlt hR h1
          generalize colN P m = c at *
          go_wp2
          go_round
          case rel => exact ⟨m + 1, x, y, by go_num, rfl, rfl, HN.out⟩
          case measure => simp [intOf]; omega
      · have HE := Lib.hid (gRel_end p1 hR.out (by rw [← HS.out]; exact hlt))
        have hli : ¬ (s : Int) ≤ (P : Int) + (m : Int) := by omega
        have hs43 : s ≤ 1849 := by rw [HS.out]; exact Nat.mul_le_mul m2 m2
        clear hlt hR
        go_wp2
        go_ret3
        exact ⟨by rw [← HE.out.1, ← HE.out.2]; rfl, Below.refl _ _⟩

end Go.Proofs.Ytcggiekhlophlab
