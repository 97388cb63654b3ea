/-
  Contracts: the code of a praline, of the program and of the model. Conditions: none.
-/
import Derived.Test.YtcggiekhlophlaaTast
import Derived.Test.YtcggiekhlophlaaIKit
import Derived.Test.YtcggiekhlophlaaOpenI
namespace Go.Proofs.Ytcggiekhlophlaa
open Go.RowKit
set_option linter.unusedVariables false
set_option linter.unusedSimpArgs false

/-- digit j of t digits of x to the base B -/
def dig (x B t j : Nat) : Nat := x / B ^ (t - 1 - j) % B
/-- the last m of them, the others 0 -/
def codeP (x B t m : Nat) : List Int := (List.range t).map fun (j : Nat) => if t - m ≤ j then (dig x B t j : Int) else 0
def codeL (x B t : Nat) : List Int := (List.range t).map fun (j : Nat) => (dig x B t j : Int)
theorem length_codeP (x B t m : Nat) : (codeP x B t m).length = t := by simp [codeP]
theorem length_codeL (x B t : Nat) : (codeL x B t).length = t := by simp [codeL]
theorem codeP_zero (x B t : Nat) : codeP x B t 0 = List.replicate t 0 := by
  apply List.ext_getElem
  · simp [codeP]
  · intro j h1 h2
    simp [codeP]
    intro h; simp [codeP] at h1; omega
theorem codeP_all (x B t : Nat) : codeP x B t t = codeL x B t := by
  apply List.ext_getElem
  · simp [codeP, codeL]
  · intro j h1 h2
    simp [codeP, codeL]
theorem codeP_set {x B t m : Nat} (hm : m < t) : (codeP x B t m).set (t - 1 - m) ((x / B ^ m % B : Nat) : Int) = codeP x B t (m + 1) := by
  apply List.ext_getElem
  · simp [codeP]
  · intro j h1 h2
    have hj : j < t := by simpa [codeP] using h2
    rw [List.getElem_set]
    by_cases e : t - 1 - m = j
    · rw [if_pos e]
      subst e
      simp [codeP, dig]
      rw [if_pos (by omega), show t - 1 - (t - 1 - m) = m by omega]
    · rw [if_neg e]
      simp [codeP]
      by_cases a : t ≤ j + m
      · rw [if_pos a, if_pos (by omega)]
      · rw [if_neg a, if_neg (by omega)]
theorem codeL_at {x B t j : Nat} (hj : j < t) : (codeL x B t)[j]'(by rw [length_codeL]; exact hj) = (dig x B t j : Int) := by simp [codeL]

set_option maxRecDepth 100000 in
set_option maxHeartbeats 2000000 in
theorem codeOf_any (x t R : Nat) (hx : x ≤ 1000000) (ht : t ≤ 20) (h1t : 1 ≤ t) (hR : R ≤ 20) (w : World) :
    Calls Try.prog 55 #[.int .i64 x, .int .i64 t, .int .i64 R] w fun e w' => ∃ g, e = .returned (.slice (some ⟨g, 0, none⟩) t t) ∧ w'.ownsRow w.heap.size 3 1 (.slice (some ⟨g, 0, none⟩) t t) t (intCells (codeL x (R + 1) t)) ∧ Below w.heap.size w w' := by
  obtain ⟨i0, hi, hz0, hz1, hz2⟩ := info_parts int_info
  go_enter Try.func55, Try.ntmps55
  go_wp2_with (at_make; refine wpList_make_full _ rfl (.tmp 9) (.tmp 9) 25 rfl w.heap.size 3 i0 (.int .i64 0) 1 Try.underlying25 hi hz0 hz1 .i64 .i64 _ _ t rfl rfl rfl rfl ?b2 ?b3 (Nat.le_refl _) ?_)
  case b2 => rw [hz2]; omega
  case b3 => simp only [maxLen]; omega
  intro w2 hown hgrow
  have hb2 : Below w.heap.size w w2 := (Below.refl _ _).grown hgrow (Nat.le_refl _) (fun k hk => by cases hk)
  have s2 := hb2.size
  have hown2 : w2.ownsRow w.heap.size 3 1 (.slice (some ⟨w.heap.size, 0, none⟩) t t) t (intCells (codeP x (R + 1) t 0)) := by
    have e : (madeCells #[Value.int IntKind.i64 0] t).toList = intCells (codeP x (R + 1) t 0) := by
      rw [codeP_zero, toList_madeCells_one]
      simp [intCells]
    rw [← e]
    exact hown
  have HO := Lib.hid hown2
  have HB2 := Lib.hid hb2
  clear hgrow hown hown2 hb2
  go_wp2
  go_loopw [0, 8] (fun u i wr => ∃ m v : Nat, m ≤ t ∧ i = .int .i64 ((t : Int) - 1 - m) ∧ u = .int .i64 (v : Int) ∧ v ≤ 1000000 ∧ Hid (v = x / (R + 1) ^ m) ∧ wr.ownsRow w.heap.size 3 1 (.slice (some ⟨w.heap.size, 0, none⟩) t t) t (intCells (codeP x (R + 1) t m)) ∧ Below w.heap.size w wr) (fun u i _ => (intOf i + 1).toNat)
  case atStart => exact ⟨0, x, Nat.zero_le _, by go_num, rfl, hx, by simp [Hid], HO.out, HB2.out⟩
  case round =>
    clear HO
    obtain ⟨m, v, hm, rfl, rfl, hv, HV, hown, hB⟩ := hrel
    have sB := hB.size
    obtain ⟨s, hs⟩ : ∃ s : Nat, t - m = s := ⟨_, rfl⟩
    have hti : (t : Int) - 1 - m = (s : Int) - 1 := by omega
    rw [hti]
    by_cases hlt : 0 < s
    · obtain ⟨j, rfl⟩ : ∃ j, s = j + 1 := ⟨s - 1, by omega⟩
      have hj : ((j + 1 : Nat) : Int) - 1 = (j : Int) := by omega
      rw [hj]
      have hjt : j < t := by omega
      have hmt : m < t := by omega
      have a0 := hown.cellAt j (by omega)
      have lcs : (intCells (codeP x (R + 1) t m)).length = t := by rw [length_intCells, length_codeP]
      rw [List.getElem?_eq_getElem (by omega)] at a0
      generalize (intCells (codeP x (R + 1) t m))[j]'(by omega) = v0 at a0
      have f0 := hown.frozenAt j
      have st := hown.stored j (.int .i64 ((v % (R + 1) : Nat) : Int))
      rw [set_intCells, HV.out, show j = t - 1 - m by omega, codeP_set hmt, ← HV.out, show t - 1 - m = j by omega] at st
      have ST := Lib.hid st.1
      have hd : v % (R + 1) ≤ 20 := by have := Nat.mod_lt v (show R + 1 > 0 by omega); omega
      have hq : v / (R + 1) ≤ 1000000 := Nat.le_trans (Nat.div_le_self _ _) hv
      have HQ : Hid (v / (R + 1) = x / (R + 1) ^ (m + 1)) := by simp only [Hid]; rw [HV.out, Nat.div_div_eq_div_mul, Nat.pow_succ]
      have e1 : (v : Int).tmod ((R : Int) + 1) = ((v % (R + 1) : Nat) : Int) := by rw [Int.tmod_eq_emod_of_nonneg (by omega)]; push_cast; rfl
      have e2 : (v : Int).tdiv ((R : Int) + 1) = ((v / (R + 1) : Nat) : Int) := by rw [Int.tdiv_eq_ediv_of_nonneg (by omega)]; push_cast; rfl
      have HJ : Hid ((t : Int) - 1 - ((m + 1 : Nat) : Int) = (j : Int) - 1) := by simp only [Hid]; omega
      generalize v % (R + 1) = d at *
      generalize v / (R + 1) = q at *
      have e3 : wrap64 (d : Int) = (d : Int) := IntWalk.wrap64_in _ (by omega)
      have e4 : wrap64 (q : Int) = (q : Int) := IntWalk.wrap64_in _ (by omega)
      clear st hown lcs hs hti hj
      go_wp2
      go_roundw
      case rel => exact ⟨m + 1, q, by omega, by rw [HJ.out], by rw [e4], hq, HQ, ST.out, by (repeat (first | (with_reducible exact Below.refl _ _) | (with_reducible assumption) | (with_reducible refine Below.drew ?_) | ((with_reducible refine balloc ?_ _ ?_); · (first | (simp; done) | (simp; omega) | omega)) | ((with_reducible refine bset ?_ _ ?_); · (first | (simp; done) | (simp; omega) | omega)) | (with_reducible refine bdrewN _ ?_) | ((with_reducible refine bcall ?_ (by assumption) ?_); · (first | (simp; done) | (simp; omega) | omega))))⟩
      case measure => (first | (simp [intOf]; done) | (simp [intOf]; omega))
    · have hmt : m = t := by omega
      subst hmt
      have hs0 : s = 0 := by omega
      subst hs0
      rw [codeP_all] at hown
      clear hs hti
      go_wp2
      go_ret
      exact ⟨w.heap.size, rfl, hown, hB⟩

set_option maxRecDepth 100000 in
set_option maxHeartbeats 2000000 in
theorem bxCode_any (x t R : Nat) (hx : x ≤ 1000000) (ht : t ≤ 20) (h1t : 1 ≤ t) (hR : R ≤ 20) (w : World) :
    Calls Try.prog 52 #[.int .i64 t, .int .i64 R, .int .i64 x] w fun e w' => ∃ g, e = .returned (.slice (some ⟨g, 0, none⟩) t t) ∧ w'.ownsRow w.heap.size 3 1 (.slice (some ⟨g, 0, none⟩) t t) t (intCells (codeL x (R + 1) t)) ∧ Below w.heap.size w w' := by
  obtain ⟨i0, hi, hz0, hz1, hz2⟩ := info_parts int_info
  go_enter Try.func52, Try.ntmps52
  go_wp2_with (at_make; refine wpList_make_full _ rfl (.tmp 9) (.tmp 9) 25 rfl w.heap.size 3 i0 (.int .i64 0) 1 Try.underlying25 hi hz0 hz1 .i64 .i64 _ _ t rfl rfl rfl rfl ?b2 ?b3 (Nat.le_refl _) ?_)
  case b2 => rw [hz2]; omega
  case b3 => simp only [maxLen]; omega
  intro w2 hown hgrow
  have hb2 : Below w.heap.size w w2 := (Below.refl _ _).grown hgrow (Nat.le_refl _) (fun k hk => by cases hk)
  have s2 := hb2.size
  have hown2 : w2.ownsRow w.heap.size 3 1 (.slice (some ⟨w.heap.size, 0, none⟩) t t) t (intCells (codeP x (R + 1) t 0)) := by
    have e : (madeCells #[Value.int IntKind.i64 0] t).toList = intCells (codeP x (R + 1) t 0) := by
      rw [codeP_zero, toList_madeCells_one]
      simp [intCells]
    rw [← e]
    exact hown
  have HO := Lib.hid hown2
  have HB2 := Lib.hid hb2
  clear hgrow hown hown2 hb2
  go_wp2
  go_loopw [2, 8] (fun u i wr => ∃ m v : Nat, m ≤ t ∧ i = .int .i64 ((t : Int) - 1 - m) ∧ u = .int .i64 (v : Int) ∧ v ≤ 1000000 ∧ Hid (v = x / (R + 1) ^ m) ∧ wr.ownsRow w.heap.size 3 1 (.slice (some ⟨w.heap.size, 0, none⟩) t t) t (intCells (codeP x (R + 1) t m)) ∧ Below w.heap.size w wr) (fun u i _ => (intOf i + 1).toNat)
  case atStart => exact ⟨0, x, Nat.zero_le _, by go_num, rfl, hx, by simp [Hid], HO.out, HB2.out⟩
  case round =>
    clear HO
    obtain ⟨m, v, hm, rfl, rfl, hv, HV, hown, hB⟩ := hrel
    have sB := hB.size
    obtain ⟨s, hs⟩ : ∃ s : Nat, t - m = s := ⟨_, rfl⟩
    have hti : (t : Int) - 1 - m = (s : Int) - 1 := by omega
    rw [hti]
    by_cases hlt : 0 < s
    · obtain ⟨j, rfl⟩ : ∃ j, s = j + 1 := ⟨s - 1, by omega⟩
      have hj : ((j + 1 : Nat) : Int) - 1 = (j : Int) := by omega
      rw [hj]
      have hjt : j < t := by omega
      have hmt : m < t := by omega
      have a0 := hown.cellAt j (by omega)
      have lcs : (intCells (codeP x (R + 1) t m)).length = t := by rw [length_intCells, length_codeP]
      rw [List.getElem?_eq_getElem (by omega)] at a0
      generalize (intCells (codeP x (R + 1) t m))[j]'(by omega) = v0 at a0
      have f0 := hown.frozenAt j
      have st := hown.stored j (.int .i64 ((v % (R + 1) : Nat) : Int))
      rw [set_intCells, HV.out, show j = t - 1 - m by omega, codeP_set hmt, ← HV.out, show t - 1 - m = j by omega] at st
      have ST := Lib.hid st.1
      have hd : v % (R + 1) ≤ 20 := by have := Nat.mod_lt v (show R + 1 > 0 by omega); omega
      have hq : v / (R + 1) ≤ 1000000 := Nat.le_trans (Nat.div_le_self _ _) hv
      have HQ : Hid (v / (R + 1) = x / (R + 1) ^ (m + 1)) := by simp only [Hid]; rw [HV.out, Nat.div_div_eq_div_mul, Nat.pow_succ]
      have e1 : (v : Int).tmod ((R : Int) + 1) = ((v % (R + 1) : Nat) : Int) := by rw [Int.tmod_eq_emod_of_nonneg (by omega)]; push_cast; rfl
      have e2 : (v : Int).tdiv ((R : Int) + 1) = ((v / (R + 1) : Nat) : Int) := by rw [Int.tdiv_eq_ediv_of_nonneg (by omega)]; push_cast; rfl
      have HJ : Hid ((t : Int) - 1 - ((m + 1 : Nat) : Int) = (j : Int) - 1) := by simp only [Hid]; omega
      generalize v % (R + 1) = d at *
      generalize v / (R + 1) = q at *
      have e3 : wrap64 (d : Int) = (d : Int) := IntWalk.wrap64_in _ (by omega)
      have e4 : wrap64 (q : Int) = (q : Int) := IntWalk.wrap64_in _ (by omega)
      clear st hown lcs hs hti hj
      go_wp2
      go_roundw
      case rel => exact ⟨m + 1, q, by omega, by rw [HJ.out], by rw [e4], hq, HQ, ST.out, by (repeat (first | (with_reducible exact Below.refl _ _) | (with_reducible assumption) | (with_reducible refine Below.drew ?_) | ((with_reducible refine balloc ?_ _ ?_); · (first | (simp; done) | (simp; omega) | omega)) | ((with_reducible refine bset ?_ _ ?_); · (first | (simp; done) | (simp; omega) | omega)) | (with_reducible refine bdrewN _ ?_) | ((with_reducible refine bcall ?_ (by assumption) ?_); · (first | (simp; done) | (simp; omega) | omega))))⟩
      case measure => (first | (simp [intOf]; done) | (simp [intOf]; omega))
    · have hmt : m = t := by omega
      subst hmt
      have hs0 : s = 0 := by omega
      subst hs0
      rw [codeP_all] at hown
      clear hs hti
      go_wp2
      go_ret
      exact ⟨w.heap.size, rfl, hown, hB⟩

end Go.Proofs.Ytcggiekhlophlaa
