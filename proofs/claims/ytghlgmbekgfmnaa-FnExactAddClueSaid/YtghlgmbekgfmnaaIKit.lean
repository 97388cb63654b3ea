/-
  Contracts: the laws' comparison and marks of slices of numbers.
-/
import Derived.Test.YtghlgmbekgfmnaaStrs
import Derived.StillTailTactics
import Derived.Deep.QuietTactic
import Derived.BigQuiet
namespace Go.Proofs.Ytghlgmbekgfmnaa
open Go.RowKit

set_option maxRecDepth 100000 in
set_option maxHeartbeats 1000000 in
theorem eqIntS_any (A C : Option Addr) (n c m d : Nat) (xs ys : List Int) (w : World) (ha : Rd w 1 A n (intCells xs)) (hb : Rd w 1 C m (intCells ys)) (hn : n ≤ 4000000000) (hm : m ≤ 4000000000) :
    Calls Try.prog 29 #[.slice A n c, .slice C m d] w fun e w' => e = .returned (.bool (decide (xs = ys))) ∧ Below w.heap.size w w' := by
  have lx : xs.length = n := ha.ilen
  have ly : ys.length = m := hb.ilen
  by_cases hnm : n = m
  · subst hnm
    have Lx := Lib.hid lx
    have Ly := Lib.hid ly
    clear lx ly
    go_enter Try.func29, Try.ntmps29
    go_wp2
    go_loopw [5] (fun i wr => ∃ k : Nat, k ≤ n ∧ i = .int .i64 k ∧ Hid (xs.take k = ys.take k) ∧ Below w.heap.size w wr) (fun i _ => n - (intOf i).toNat)
    case atStart => exact ⟨0, Nat.zero_le _, rfl, by simp [Hid], Below.refl _ _⟩
    case round =>
      obtain ⟨k, hk, rfl, hT, hB⟩ := hrel
      by_cases hlt : k < n
      · obtain ⟨b1, o1, rfl, l1, hx, p1⟩ := (ha.later hB (Nat.le_refl _)).num hlt
        obtain ⟨b2, o2, rfl, l2, hy, q1⟩ := (hb.later hB (Nat.le_refl _)).num hlt
        by_cases hd : xs[k] = ys[k]
        · have HD := Lib.hid hd
          clear hd
          generalize hq1 : xs[k] = s1 at *
          generalize hq2 : ys[k] = s2 at *
          have HQ1 := Lib.hid hq1
          have HQ2 := Lib.hid hq2
          have hD : (s1 == s2) = true := by simpa using HD.out
          have hD2 : (s1 != s2) = false := by simpa using HD.out
          clear hq1 hq2
          go_wp2
          go_quiet (fail)
          go_wp2
          go_roundw
          case rel => exact ⟨k + 1, by omega, by go_num, (by have h := hT.out; simp only [Hid]; rw [List.take_succ_eq_append_getElem hx, List.take_succ_eq_append_getElem hy, h, HQ1.out, HQ2.out, HD.out]), by (repeat (first | (with_reducible exact Below.refl _ _) | (with_reducible assumption) | (with_reducible refine Below.drew ?_) | ((with_reducible refine balloc ?_ _ ?_); · (first | (simp; done) | (simp; omega) | omega)) | ((with_reducible refine bset ?_ _ ?_); · (first | (simp; done) | (simp; omega) | omega)) | (with_reducible refine bdrewN _ ?_) | ((with_reducible refine bcall ?_ (by assumption) ?_); · (first | (simp; done) | (simp; omega) | omega))))⟩
          case measure => simp [intOf]; omega
        · have HD := Lib.hid hd
          clear hd
          generalize hq1 : xs[k] = s1 at *
          generalize hq2 : ys[k] = s2 at *
          have HQ1 := Lib.hid hq1
          have HQ2 := Lib.hid hq2
          have hD : (s1 == s2) = false := by simpa using HD.out
          have hD2 : (s1 != s2) = true := by simpa using HD.out
          clear hq1 hq2
          go_wp2
          go_quiet (fail)
          go_wp2
          go_ret
          exact ⟨ret_bool (by have a := HQ1.out; have b := HQ2.out; have c := HD.out; simp; intro h; subst h; exact c (a.symm.trans b)), by (repeat (first | (with_reducible exact Below.refl _ _) | (with_reducible assumption) | (with_reducible refine Below.drew ?_) | ((with_reducible refine balloc ?_ _ ?_); · (first | (simp; done) | (simp; omega) | omega)) | ((with_reducible refine bset ?_ _ ?_); · (first | (simp; done) | (simp; omega) | omega)) | (with_reducible refine bdrewN _ ?_) | ((with_reducible refine bcall ?_ (by assumption) ?_); · (first | (simp; done) | (simp; omega) | omega))))⟩
      · go_wp2
        go_ret
        have : k = n := by omega
        subst this
        have lx := Lx.out
        have ly := Ly.out
        exact ⟨ret_bool (by have h := hT.out; rw [List.take_of_length_le (by omega), List.take_of_length_le (by omega)] at h; simp [h]), hB⟩
  · have h1 : ((n : Int) == (m : Int)) = false := by simp; omega
    have h2 : ((n : Int) != (m : Int)) = true := by simp; omega
    go_enter Try.func29, Try.ntmps29
    go_wp2
    go_ret
    exact ⟨ret_bool (by simp; intro h; subst h; omega), Below.refl _ _⟩

theorem eqIntS_same (A C : Option Addr) (n c m d : Nat) (xs : List Int) (w : World) (ha : Rd w 1 A n (intCells xs)) (hb : Rd w 1 C m (intCells xs)) (hn : n ≤ 4000000000) (hm : m ≤ 4000000000) :
    Calls Try.prog 29 #[.slice A n c, .slice C m d] w fun e w' => e = .returned (.bool true) ∧ Below w.heap.size w w' :=
  (eqIntS_any A C n c m d xs xs w ha hb hn hm).mono fun _ _ ⟨he, hB⟩ => ⟨by rw [he]; simp, hB⟩

/-- the marks that the laws write into a slice of numbers -/
def marks1 (k0 : Int) (n : Nat) : List Int := (List.range n).map fun (i : Nat) => k0 + (i : Int)

set_option maxRecDepth 100000 in
set_option maxHeartbeats 1000000 in
theorem markIntS_any (A : Option Addr) (n c B : Nat) (k0 : Int) (xs : List Int) (w : World) (ho : w.ownsRow B 3 1 (.slice A n c) n (intCells xs)) (hn : n ≤ 1000000000) (h0 : 0 ≤ k0) (h1 : k0 ≤ 1000000000) :
    Calls Try.prog 40 #[.slice A n c, .int .i64 k0] w fun e w' => e = .returned (.int .i64 (k0 + n)) ∧ w'.ownsRow B 3 1 (.slice A n c) n (intCells (marks1 k0 n)) ∧ Below B w w' ∧ w.grownBy w' (Value.slice A n c).ownBlock := by
  have hxl : xs.length = n := by have := ho.1; rw [length_intCells] at this; omega
  have HXL := Lib.hid hxl
  clear hxl
  go_enter Try.func40, Try.ntmps40
  go_wp2
  go_loopw [1, 5] (fun q i wr => ∃ (k : Nat) (l : List Int), k ≤ n ∧ i = .int .i64 k ∧ q = .int .i64 (k0 + k) ∧ Hid (l.length = n) ∧ wr.ownsRow B 3 1 (.slice A n c) n (intCells l) ∧ Hid (l.take k = marks1 k0 k) ∧ Below B w wr ∧ w.grownBy wr (Value.slice A n c).ownBlock) (fun _ i _ => n - (intOf i).toNat)
  case atStart => exact ⟨0, xs, Nat.zero_le _, rfl, by simp, HXL, ho, by simp [Hid, marks1], Below.refl _ _, World.grownBy.refl _ _⟩
  case round =>
    obtain ⟨k, l, hk, rfl, rfl, hl, hown, hT, hB, hG⟩ := hrel
    by_cases hlt : k < n
    · obtain ⟨g, rfl, hg1, hg2⟩ := own_at hown (by omega)
      have lcs : (intCells l).length = n * 1 := hown.1
      have a0 := hown.cellAt k (by omega)
      rw [List.getElem?_eq_getElem (by omega)] at a0
      have f0 := hown.frozenAt k
      have st := hown.stored k (.int .i64 (k0 + k))
      rw [set_intCells] at st
      have ST := Lib.hid st.1
      have SG := Lib.hid (gb_trans hG st.2)
      generalize (intCells l)[k] = v0 at a0
      clear st hown lcs hG
      go_wp2
      go_roundw
      case rel =>
        refine ⟨k + 1, l.set k (k0 + k), by omega, by go_num, by go_num, by simpa [Hid] using hl.out, ST.out, ?_, by (repeat (first | (with_reducible exact Below.refl _ _) | (with_reducible assumption) | (with_reducible refine Below.drew ?_) | ((with_reducible refine balloc ?_ _ ?_); · (first | (simp; done) | (simp; omega) | omega)) | ((with_reducible refine bset ?_ _ ?_); · (first | (simp; done) | (simp; omega) | omega)) | (with_reducible refine bdrewN _ ?_) | ((with_reducible refine bcall ?_ (by assumption) ?_); · (first | (simp; done) | (simp; omega) | omega)))), SG.out⟩
        have h := hT.out
        have hx : k < l.length := by rw [hl.out]; exact hlt
        simp only [Hid]
        rw [List.take_succ_eq_append_getElem (by simpa using hx), List.take_set_of_le (Nat.le_refl k), h]
        simp [marks1, List.range_succ]
      case measure => simp [intOf]; omega
    · go_wp2
      go_ret
      have : k = n := by omega
      subst this
      have h := hT.out
      rw [List.take_of_length_le (by rw [hl.out]; exact Nat.le_refl _)] at h
      subst h
      exact ⟨ret_int (by omega), hown, hB, hG⟩

set_option maxRecDepth 100000 in
set_option maxHeartbeats 1000000 in
theorem heldIntS_any (A : Option Addr) (n c : Nat) (k0 : Int) (w : World) (ho : Rd w 1 A n (intCells (marks1 k0 n))) (hn : n ≤ 1000000000) (h0 : 0 ≤ k0) (h1 : k0 ≤ 1000000000) :
    Calls Try.prog 41 #[.slice A n c, .int .i64 k0] w fun e w' => e = .returned (.int .i64 (k0 + n)) ∧ w = w' := by
  go_enter Try.func41, Try.ntmps41
  go_wp2
  go_loop [1, 5] (fun q i => ∃ k : Nat, k ≤ n ∧ i = .int .i64 k ∧ q = .int .i64 (k0 + k)) (fun _ i => n - (intOf i).toNat)
  case atStart => exact ⟨0, Nat.zero_le _, rfl, by simp⟩
  case round =>
    obtain ⟨k, hk, rfl, rfl⟩ := hrel
    by_cases hlt : k < n
    · obtain ⟨b1, o1, rfl, l1, hx, p1⟩ := ho.num hlt
      simp only [marks1, List.getElem_map, List.getElem_range] at p1
      go_wp2
      go_round
      case rel => exact ⟨k + 1, by omega, by go_num, by go_num⟩
      case measure => simp [intOf]; omega
    · go_wp2
      go_ret
      have : k = n := by omega
      subst this
      exact ⟨ret_int (by omega), rfl⟩

end Go.Proofs.Ytghlgmbekgfmnaa
