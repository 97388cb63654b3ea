/-
  Contracts: the laws' size, copy, comparison, marks of slices of strings, and their comparison and marks of slices of numbers.
-/
import Derived.Test.YtieiakljholkaaaStrs
import Derived.StillTailTactics
import Derived.Deep.QuietTactic
import Derived.BigQuiet
import Derived.Lib.SlicesS
namespace Go.Proofs.Ytieiakljholkaaa
open Go.RowKit

def totS (l : List ByteArray) : Int := (l.map fun s => (s.size : Int)).sum
theorem totS_nonneg (l : List ByteArray) : 0 ≤ totS l := by
  induction l with
  | nil => simp [totS]
  | cons s r ih => simp [totS] at *; omega
theorem totS_snoc (l : List ByteArray) (s : ByteArray) : totS (l ++ [s]) = totS l + s.size := by simp [totS]
theorem totS_take (l : List ByteArray) (k : Nat) (h : k < l.length) : totS (l.take (k + 1)) = totS (l.take k) + (l[k]).size := by
  rw [List.take_succ_eq_append_getElem h, totS_snoc]

def SzSaid (n left : Int) (xs : List ByteArray) (e : Ending) : Prop :=
  ∃ v : Int, e = .returned (.int .i64 v) ∧ (v = -1 ∨ (0 ≤ v ∧ v + n + totS xs = left))


theorem str_info : (Try.prog.info? 9).map (fun i => (i.zero, i.size, i.bytes)) = some (some (.string ByteArray.empty), 1, 16) := by kernel_rfl

theorem take_set1 (cs : List Value) (m : Nat) (a : Value) (h : m < cs.length) : (cs.set m a).take (m + 1) = cs.take m ++ [a] := by
  rw [List.take_succ_eq_append_getElem (by simpa using h), List.take_set_of_le (Nat.le_refl m)]
  simp


set_option maxRecDepth 100000 in
set_option maxHeartbeats 1000000 in
theorem eqStringS_any (A C : Option Addr) (n c m d : Nat) (xs ys : List ByteArray) (w : World) (ha : Rd w 1 A n (strCells xs)) (hb : Rd w 1 C m (strCells ys)) (hn : n ≤ 4000000000) (hm : m ≤ 4000000000) :
    Calls Try.prog 6 #[.slice A n c, .slice C m d] w fun e w' => e = .returned (.bool (decide (xs = ys))) ∧ Below w.heap.size w w' := by
  have lx : xs.length = n := ha.slen
  have ly : ys.length = m := hb.slen
  by_cases hnm : n = m
  · subst hnm
    have Lx := Lib.hid lx
    have Ly := Lib.hid ly
    clear lx ly
    go_enter Try.func6, Try.ntmps6
    go_wp2
    go_loopw [5] (fun i wr => ∃ k : Nat, k ≤ n ∧ i = .int .i64 k ∧ Hid (xs.take k = ys.take k) ∧ Below w.heap.size w wr) (fun i _ => n - (intOf i).toNat)
    case atStart => exact ⟨0, Nat.zero_le _, rfl, by simp [Hid], Below.refl _ _⟩
    case round =>
      obtain ⟨k, hk, rfl, hT, hB⟩ := hrel
      by_cases hlt : k < n
      · obtain ⟨b1, o1, rfl, l1, hx, p1⟩ := (ha.later hB (Nat.le_refl _)).str hlt
        obtain ⟨b2, o2, rfl, l2, hy, q1⟩ := (hb.later hB (Nat.le_refl _)).str hlt
        by_cases hd : xs[k] = ys[k]
        · have hD : (xs[k].toList == ys[k].toList) = true := (Lib.bytes_beq_iff _ _).2 hd
          have HD := Lib.hid hd
          clear hd
          generalize hq1 : xs[k] = s1 at *
          generalize hq2 : ys[k] = s2 at *
          have HQ1 := Lib.hid hq1
          have HQ2 := Lib.hid hq2
          clear hq1 hq2
          go_wp2
          go_quiet (fail)
          go_wp2
          go_roundw
          case rel => exact ⟨k + 1, by omega, by go_num, (by have h := hT.out; simp only [Hid]; rw [List.take_succ_eq_append_getElem hx, List.take_succ_eq_append_getElem hy, h, HQ1.out, HQ2.out, HD.out]), by (repeat (first | (with_reducible exact Below.refl _ _) | (with_reducible assumption) | (with_reducible refine Below.drew ?_) | ((with_reducible refine balloc ?_ _ ?_); · (first | (simp; done) | (simp; omega) | omega)) | ((with_reducible refine bset ?_ _ ?_); · (first | (simp; done) | (simp; omega) | omega)) | (with_reducible refine bdrewN _ ?_) | ((with_reducible refine bcall ?_ (by assumption) ?_); · (first | (simp; done) | (simp; omega) | omega))))⟩
          case measure => simp [intOf]; omega
        · have hD : (xs[k].toList == ys[k].toList) = false := (Lib.bytes_beq_false_iff _ _).2 hd
          have HD := Lib.hid hd
          clear hd
          generalize hq1 : xs[k] = s1 at *
          generalize hq2 : ys[k] = s2 at *
          have HQ1 := Lib.hid hq1
          have HQ2 := Lib.hid hq2
          clear hq1 hq2
          go_wp2
          go_quiet (fail)
          go_wp2
          go_ret
          exact ⟨ret_bool (by have a := HQ1.out; have b := HQ2.out; have c := HD.out; simp; intro h; subst h; exact c (a.symm.trans b)), by (repeat (first | (with_reducible exact Below.refl _ _) | (with_reducible assumption) | (with_reducible refine Below.drew ?_) | ((with_reducible refine balloc ?_ _ ?_); · (first | (simp; done) | (simp; omega) | omega)) | ((with_reducible refine bset ?_ _ ?_); · (first | (simp; done) | (simp; omega) | omega)) | (with_reducible refine bdrewN _ ?_) | ((with_reducible refine bcall ?_ (by assumption) ?_); · (first | (simp; done) | (simp; omega) | omega))))⟩
      · go_wp2
        go_ret
        have : k = n := by omega
        subst this
        have lx := Lx.out
        have ly := Ly.out
        exact ⟨ret_bool (by have h := hT.out; rw [List.take_of_length_le (by omega), List.take_of_length_le (by omega)] at h; simp [h]), hB⟩
  · have h1 : ((n : Int) == (m : Int)) = false := by simp; omega
    have h2 : ((n : Int) != (m : Int)) = true := by simp; omega
    go_enter Try.func6, Try.ntmps6
    go_wp2
    go_ret
    exact ⟨ret_bool (by simp; intro h; subst h; omega), Below.refl _ _⟩

theorem eqStringS_same (A C : Option Addr) (n c m d : Nat) (xs : List ByteArray) (w : World) (ha : Rd w 1 A n (strCells xs)) (hb : Rd w 1 C m (strCells xs)) (hn : n ≤ 4000000000) (hm : m ≤ 4000000000) :
    Calls Try.prog 6 #[.slice A n c, .slice C m d] w fun e w' => e = .returned (.bool true) ∧ Below w.heap.size w w' :=
  (eqStringS_any A C n c m d xs xs w ha hb hn hm).mono fun _ _ ⟨he, hB⟩ => ⟨by rw [he]; simp, hB⟩

end Go.Proofs.Ytieiakljholkaaa
