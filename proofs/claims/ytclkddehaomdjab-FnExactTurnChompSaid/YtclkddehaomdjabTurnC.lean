/-
  Contracts: turned chomps, of the model and of the program.
-/
import Derived.Test.YtclkddehaomdjabChSum
namespace Go.Proofs.Ytclkddehaomdjab
open Go.RowKit
set_option linter.unusedVariables false

/-- how many of the first k rows have more than x squares -/
def cntGt (l : List Int) : Nat → Nat → Nat
  | 0, _ => 0
  | k + 1, x => cntGt l k x + if (x : Int) < l.getD k 0 then 1 else 0
theorem cntGt_le (l : List Int) (k x : Nat) : cntGt l k x ≤ k := by
  induction k with
  | zero => simp [cntGt]
  | succ k ih => simp only [cntGt]; split <;> omega
theorem cntGt_stop {l : List Int} (h : ChOK l) {k x : Nat} (hk : l.getD k 0 ≤ (x : Int)) (m : Nat) : cntGt l (k + m) x = cntGt l k x := by
  induction m with
  | zero => rfl
  | succ m ih =>
    have := h.anti (show k ≤ k + m by omega)
    rw [← Nat.add_assoc]
    simp only [cntGt, ih]
    rw [if_neg (by omega)]
    rfl
def turnK (l : List Int) (k : Nat) : List Int := (List.range k).map fun (x : Nat) => (cntGt l l.length x : Int)
def turnC (l : List Int) : List Int := if chB l then turnK l (l.getD 0 0).toNat else []
theorem length_turnC (l : List Int) : (turnC l).length ≤ 6 := by
  unfold turnC
  split
  · rename_i h
    have := (chB_true.1 h).le6 0
    simp only [turnK, List.length_map, List.length_range]
    omega
  · simp
/-- the program's row behind k rows and i squares of the next one -/
def turnP (l : List Int) (W k i : Nat) : List Int := (List.range W).map fun (x : Nat) => (cntGt l k x : Int) + if x < i then 1 else 0
theorem length_turnP (l : List Int) (W k i : Nat) : (turnP l W k i).length = W := by simp [turnP]
theorem turnP_at {l : List Int} {W k i : Nat} (h : i < W) : (turnP l W k i)[i]'(by rw [length_turnP]; exact h) = (cntGt l k i : Int) := by simp [turnP]
theorem turnP_set {l : List Int} {W k i : Nat} (h : i < W) : (turnP l W k i).set i ((cntGt l k i : Int) + 1) = turnP l W k (i + 1) := by
  apply List.ext_getElem
  · simp [turnP]
  · intro j h1 h2
    have hj : j < W := by simpa [turnP] using h2
    rw [List.getElem_set]
    simp only [turnP, List.getElem_map, List.getElem_range]
    by_cases e : i = j
    · subst e
      rw [if_pos rfl, if_pos (by omega)]
    · rw [if_neg e]
      by_cases e2 : j < i
      · rw [if_pos e2, if_pos (by omega)]
      · rw [if_neg e2, if_neg (by omega)]
theorem turnP_next {l : List Int} {W k z : Nat} (h : l.getD k 0 = (z : Int)) : turnP l W k z = turnP l W (k + 1) 0 := by
  simp only [turnP, cntGt, h]
  apply List.map_congr_left
  intro x hx
  by_cases e : x < z
  · rw [if_pos e, if_pos (by omega), if_neg (by omega)]
    omega
  · rw [if_neg e, if_neg (by omega), if_neg (Nat.not_lt_zero _)]
    simp
theorem turnP_last {l : List Int} {W n : Nat} (h : l.length = n) : turnP l W n 0 = turnK l W := by
  subst h
  simp [turnP, turnK]
theorem turnP_zero (l : List Int) (W : Nat) : turnP l W 0 0 = List.replicate W 0 := by
  apply List.ext_getElem
  · simp [turnP]
  · intro j h1 h2
    simp [turnP, cntGt]

set_option maxRecDepth 100000 in
set_option maxHeartbeats 2000000 in
theorem sTurnChomp_any (A : Option Addr) (n c : Nat) (l : List Int) (w : World) (hr : Rd w 1 A n (intCells l)) (hn : n ≤ 1000000000) :
    Calls Try.prog 28 #[.slice A n c] w fun e w' => ∃ A' n' c', e = .returned (.tuple #[.slice A' n' c', .bool (chB l)]) ∧ w'.ownsRow w.heap.size 3 1 (.slice A' n' c') n' (intCells (turnC l)) ∧ Below w.heap.size w w' := by
  cases hb : chB l
  · have HT : turnC l = [] := by simp [turnC, hb]
    rw [HT]
    go_enter Try.func28, Try.ntmps28
    go_wp2_with fail
    refine (cmGood_any _ _ _ _ _ hr hn).mono ?_; rintro e w1 ⟨rfl, hb1⟩
    rw [hb]
    go_wp2
    go_ret2
    exact ⟨none, 0, 0, rfl, World.ownsRow_nil _ _ _ _, hb1⟩
  · have HC := Lib.hid (chB_true.1 hb)
    obtain ⟨W, hW⟩ : ∃ W : Nat, l.getD 0 0 = W := ⟨(l.getD 0 0).toNat, by have := HC.out.ge0 0; omega⟩
    have HT : Hid (turnC l = turnK l W) := by simp only [Hid, turnC, hb, if_true, hW]; rfl
    have W6 : W ≤ 6 := by have := HC.out.le6 0; omega
    have hll := hr.ilen
    have HLL := Lib.hid hll
    have h1n : 1 ≤ n := by have := HC.out.1; omega
    have HW := Lib.hid hW
    obtain ⟨i0, hi, hz0, hz1, hz2⟩ := info_parts int_info
    clear hW hll
    go_enter Try.func28, Try.ntmps28
    go_wp2_with fail
    refine (cmGood_any _ _ _ _ _ hr hn).mono ?_; rintro e w1 ⟨rfl, hb1⟩
    rw [hb]
    have s1 := hb1.size
    have hr1 := hr.later hb1 (Nat.le_refl _)
    have HB1 := Lib.hid hb1
    clear hb hb1 hr
    go_wp2
    go_loopw [4, 5] (fun v x wr => ∃ (k : Nat) (A' : Option Addr) (c' : Nat), k ≤ W ∧ x = .int .i64 k ∧ v = .slice A' k c' ∧ wr.ownsRow w1.heap.size 3 1 (.slice A' k c') k (intCells (turnK l k)) ∧ Below w1.heap.size w1 wr) (fun _ x _ => W - (intOf x).toNat)
    case atStart => exact ⟨0, none, 0, Nat.zero_le _, rfl, rfl, World.ownsRow_nil _ _ _ _, Below.refl _ _⟩
    case round =>
      obtain ⟨k, A', c', hk, rfl, rfl, hown, hB⟩ := hrel
      have sB := hB.size
      obtain ⟨b, o, rfl, _, hx0, p0⟩ := (hr1.later hB (Nat.le_refl _)).num h1n
      have hl0 : l[0] = (W : Int) := by rw [← getD_lt hx0]; exact HW.out
      rw [hl0, Nat.add_zero] at p0
      clear hl0 hx0
      by_cases hlt : k < W
      · go_wp2
        go_loop [6] (fun j => ∃ q : Nat, q ≤ n ∧ j = .int .i64 q ∧ Hid (cntGt l q k = q)) (fun j => n - (intOf j).toNat)
        case atStart => exact ⟨0, Nat.zero_le _, rfl, rfl⟩
        case round =>
          obtain ⟨q, hq, rfl, hT⟩ := hrel
          by_cases hqn : q < n
          · obtain ⟨b2, o2, e2, _, hx, p1⟩ := (hr1.later hB (Nat.le_refl _)).num hqn
            simp only [Option.some.injEq, Addr.mk.injEq, and_true] at e2
            obtain ⟨rfl, rfl⟩ := e2
            have HQ := Lib.hid (getD_lt hx)
            generalize l[q] = z at *
            clear hx
            by_cases hz : (k : Int) < z
            · have HZ := Lib.hid hz
              have hd : decide ((k : Int) < z) = true := decide_eq_true hz
              go_wp2
              go_round
              case rel => exact ⟨q + 1, by omega, by go_num, by simp only [Hid, cntGt, hT.out]; rw [HQ.out, if_pos HZ.out]⟩
              case measure => simp [intOf]; omega
            · have HE : Hid (turnK l (k + 1) = turnK l k ++ [(q : Int)]) := by
                have h1 := cntGt_stop HC.out (k := q) (x := k) (by rw [HQ.out]; omega) (n - q)
                rw [show q + (n - q) = l.length by have := HLL.out; omega, hT.out] at h1
                simp [Hid, turnK, List.range_succ, h1]
              have hd : decide ((k : Int) < z) = false := decide_eq_false hz
              have hc3 : k + 1 ≤ maxLen := by simp only [maxLen]; omega
              go_wp2_with (at_builtin; refine wpList_append_own _ rfl (.tmp 31) (.tmp 33) 30 rfl w1.heap.size 3 i0 (.int .i64 0) 1 8 Try.underlying30 hi hz0 hz1 hz2 rfl (by decide) _ _ _ rfl (hown.alloc _) ⟨wr.heap.size, 0, none⟩ 1 1 [.int .i64 (q : Int)] rfl rfl (new1 _ _ _) (int_oneCell [_]) hc3 (by omega) (Nat.le_trans sB (show wr.heap.size ≤ _ by simp)) ?_)
              intro v' w2 hown' hgrow _
              have hb2 := gb_new (Nat.le_refl _) (hB.alloc (by omega) (.cells #[.int .i64 (q : Int)] 3)) hgrow (fun g hg => (hown.lt g hg).1)
              obtain ⟨A2, c2', rfl⟩ := own_slice hown'
              clear hgrow hown hB hc3
              go_wp2
              go_roundw
              case rel => exact ⟨k + 1, A2, c2', by omega, by go_num, rfl, by rw [HE.out, intCells_append]; exact hown', hb2⟩
              case measure => simp [intOf]; omega
          · have HE : Hid (turnK l (k + 1) = turnK l k ++ [(q : Int)]) := by
              have hqn' : q = n := by omega
              have h1 := hT.out
              rw [show q = l.length by have := HLL.out; omega] at h1
              rw [show (q : Int) = (l.length : Int) by have := HLL.out; omega]
              simp [Hid, turnK, List.range_succ, h1]
            have hc3 : k + 1 ≤ maxLen := by simp only [maxLen]; omega
            go_wp2_with (at_builtin; refine wpList_append_own _ rfl (.tmp 31) (.tmp 33) 30 rfl w1.heap.size 3 i0 (.int .i64 0) 1 8 Try.underlying30 hi hz0 hz1 hz2 rfl (by decide) _ _ _ rfl (hown.alloc _) ⟨wr.heap.size, 0, none⟩ 1 1 [.int .i64 (q : Int)] rfl rfl (new1 _ _ _) (int_oneCell [_]) hc3 (by omega) (Nat.le_trans sB (show wr.heap.size ≤ _ by simp)) ?_)
            intro v' w2 hown' hgrow _
            have hb2 := gb_new (Nat.le_refl _) (hB.alloc (by omega) (.cells #[.int .i64 (q : Int)] 3)) hgrow (fun g hg => (hown.lt g hg).1)
            obtain ⟨A2, c2', rfl⟩ := own_slice hown'
            clear hgrow hown hB hc3
            go_wp2
            go_roundw
            case rel => exact ⟨k + 1, A2, c2', by omega, by go_num, rfl, by rw [HE.out, intCells_append]; exact hown', hb2⟩
            case measure => simp [intOf]; omega
      · go_wp2
        go_ret2
        have : k = W := by omega
        subst this
        exact ⟨A', k, c', rfl, by rw [HT.out]; exact own_base hown s1, HB1.out.trans (hB.mono s1)⟩

set_option maxRecDepth 100000 in
set_option maxHeartbeats 2000000 in
theorem turnChomp_any (A : Option Addr) (n c : Nat) (l : List Int) (w : World) (hr : Rd w 1 A n (intCells l)) (hn : n ≤ 1000000000) :
    Calls Try.prog 29 #[.slice A n c] w fun e w' => ∃ A' n' c', e = .returned (.tuple #[.slice A' n' c', .bool (chB l)]) ∧ w'.ownsRow w.heap.size 3 1 (.slice A' n' c') n' (intCells (turnC l)) ∧ Below w.heap.size w w' := by
  cases hb : chB l
  · have HT : turnC l = [] := by simp [turnC, hb]
    rw [HT]
    go_enter Try.func29, Try.ntmps29
    go_wp2_with fail
    refine (isChomp_any _ _ _ _ _ hr hn).mono ?_; rintro e w1 ⟨rfl, hb1⟩
    rw [hb]
    go_wp2
    go_ret2
    exact ⟨none, 0, 0, rfl, World.ownsRow_nil _ _ _ _, hb1⟩
  · have HC := Lib.hid (chB_true.1 hb)
    obtain ⟨W, hW⟩ : ∃ W : Nat, l.getD 0 0 = W := ⟨(l.getD 0 0).toNat, by have := HC.out.ge0 0; omega⟩
    have HT : Hid (turnC l = turnK l W) := by simp only [Hid, turnC, hb, if_true, hW]; rfl
    have W6 : W ≤ 6 := by have := HC.out.le6 0; omega
    have W1 : 1 ≤ W := by have := HC.out.ge1 (k := 0) (by have := HC.out.1; omega); omega
    have hll := hr.ilen
    have HLL := Lib.hid hll
    have h1n : 1 ≤ n := by have := HC.out.1; omega
    have HW := Lib.hid hW
    obtain ⟨i0, hi, hz0, hz1, hz2⟩ := info_parts int_info
    clear hW hll
    go_enter Try.func29, Try.ntmps29
    go_wp2_with fail
    refine (isChomp_any _ _ _ _ _ hr hn).mono ?_; rintro e w1 ⟨rfl, hb1⟩
    rw [hb]
    have s1 := hb1.size
    have hr1 := hr.later hb1 (Nat.le_refl _)
    have HB1 := Lib.hid hb1
    obtain ⟨b, o, rfl, _, hx0, p0⟩ := hr1.num h1n
    have hl0 : l[0] = (W : Int) := by rw [← getD_lt hx0]; exact HW.out
    rw [hl0, Nat.add_zero] at p0
    clear hb hb1 hr hl0 hx0
    go_wp2_with (at_make; refine wpList_make_full _ rfl (.tmp 13) (.tmp 13) 30 rfl w1.heap.size 3 i0 (.int .i64 0) 1 Try.underlying30 hi hz0 hz1 .i64 .i64 _ _ W rfl rfl rfl rfl ?b2 ?b3 (Nat.le_refl _) ?_)
    case b2 => rw [hz2]; omega
    case b3 => simp only [maxLen]; omega
    intro w2 hown hgrow
    have hb2 : Below w1.heap.size w1 w2 := (Below.refl _ _).grown hgrow (Nat.le_refl _) (fun k hk => by cases hk)
    have s2 := hb2.size
    have hown2 : w2.ownsRow w1.heap.size 3 1 (.slice (some ⟨w1.heap.size, 0, none⟩) W W) W (intCells (turnP l W 0 0)) := by
      have e : (madeCells #[Value.int IntKind.i64 0] W).toList = intCells (turnP l W 0 0) := by
        rw [turnP_zero]
        rw [toList_madeCells_one]
        simp [intCells]
      rw [← e]
      exact hown
    have HO := Lib.hid hown2
    have HB2 := Lib.hid hb2
    clear hgrow hown hown2 hb2
    go_wp2
    go_loopw [17] (fun i wr => ∃ k : Nat, k ≤ n ∧ i = .int .i64 k ∧ wr.ownsRow w1.heap.size 3 1 (.slice (some ⟨w1.heap.size, 0, none⟩) W W) W (intCells (turnP l W k 0)) ∧ Below w1.heap.size w1 wr) (fun i _ => n - (intOf i).toNat)
    case atStart => exact ⟨0, Nat.zero_le _, rfl, HO.out, HB2.out⟩
    case round =>
      clear HO
      obtain ⟨k, hk, rfl, hown, hB⟩ := hrel
      have sB := hB.size
      by_cases hlt : k < n
      · obtain ⟨b2, o2, e2, _, hx, p1⟩ := (hr1.later hB (Nat.le_refl _)).num hlt
        simp only [Option.some.injEq, Addr.mk.injEq, and_true] at e2
        obtain ⟨rfl, rfl⟩ := e2
        have hq := getD_lt hx
        obtain ⟨z, hz⟩ : ∃ z : Nat, l[k] = z := ⟨(l[k]).toNat, by have := HC.out.ge0 k; omega⟩
        have hzW : z ≤ W := by have := HC.out.anti (Nat.zero_le k); rw [HW.out] at this; omega
        have HZ : Hid (l.getD k 0 = (z : Int)) := hq.trans hz
        rw [hz] at p1
        have HOW := Lib.hid hown
        have HBB := Lib.hid hB
        clear hx hq hz hown hB
        go_wp2
        go_loopw [22] (fun j wq => ∃ i : Nat, i ≤ z ∧ j = .int .i64 i ∧ wq.ownsRow w1.heap.size 3 1 (.slice (some ⟨w1.heap.size, 0, none⟩) W W) W (intCells (turnP l W k i)) ∧ Below w1.heap.size w1 wq) (fun j _ => z - (intOf j).toNat)
        case atStart => exact ⟨0, Nat.zero_le _, rfl, HOW.out, HBB.out⟩
        case round =>
          clear HOW HBB
          obtain ⟨i, hi', rfl, hown, hB⟩ := hrel
          by_cases hli : i < z
          · have lcs := length_turnP l W k i
            have hiW : i < W := by omega
            have a0 := hown.cellAt i (by omega)
            rw [show (intCells (turnP l W k i))[i]? = some (.int .i64 (cntGt l k i : Int)) by rw [List.getElem?_eq_getElem (by rw [length_intCells, lcs]; exact hiW)]; simp only [intCells, List.getElem_map]; rw [turnP_at hiW]] at a0
            have f0 := hown.frozenAt i
            have hc6 := cntGt_le l k i
            have hk6 : k ≤ 6 := by have := HC.out.2.1; have := HLL.out; omega
            have st := hown.stored i (.int .i64 ((cntGt l k i : Int) + 1))
            rw [set_intCells, turnP_set hiW] at st
            have ST := Lib.hid st.1
            generalize cntGt l k i = v at *
            clear st hown lcs
            go_wp2
            go_roundw
            case rel => exact ⟨i + 1, by omega, by go_num, ST.out, by (repeat (first | (with_reducible exact Below.refl _ _) | (with_reducible assumption) | (with_reducible refine Below.drew ?_) | ((with_reducible refine balloc ?_ _ ?_); · (first | (simp; done) | (simp; omega) | omega)) | ((with_reducible refine bset ?_ _ ?_); · (first | (simp; done) | (simp; omega) | omega)) | (with_reducible refine bdrewN _ ?_) | ((with_reducible refine bcall ?_ (by assumption) ?_); · (first | (simp; done) | (simp; omega) | omega))))⟩
            case measure => simp [intOf]; omega
          · have : i = z := by omega
            subst this
            rw [turnP_next HZ.out] at hown
            go_wp2
            go_roundw
            case rel => exact ⟨k + 1, by omega, by go_num, hown, hB⟩
            case measure => simp [intOf]; omega
      · go_wp2
        go_ret2
        have hkn : k = n := by omega
        rw [hkn, turnP_last HLL.out] at hown
        exact ⟨_, W, W, rfl, by rw [HT.out]; exact own_base hown s1, HB1.out.trans (hB.mono s1)⟩

end Go.Proofs.Ytclkddehaomdjab
