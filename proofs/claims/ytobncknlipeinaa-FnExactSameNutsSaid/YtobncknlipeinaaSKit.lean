/-
  Contracts: the laws' size, copy, comparison, marks of slices of strings, and their comparison and marks of slices of numbers.
-/
import Derived.Test.YtobncknlipeinaaStrs
import Derived.StillTailTactics
import Derived.Deep.QuietTactic
import Derived.BigQuiet
import Derived.Lib.SlicesS
namespace Go.Proofs.Ytobncknlipeinaa
open Go.RowKit

def totS (l : List ByteArray) : Int := (l.map fun s => (s.size : Int)).sum
theorem totS_nonneg (l : List ByteArray) : 0 ≤ totS l := by
  induction l with
  | nil => simp [totS]
  | cons s r ih => simp [totS] at *; omega
theorem totS_snoc (l : List ByteArray) (s : ByteArray) : totS (l ++ [s]) = totS l + s.size := by simp [totS]
theorem totS_take (l : List ByteArray) (k : Nat) (h : k < l.length) : totS (l.take (k + 1)) = totS (l.take k) + (l[k]).size := by
  rw [List.take_succ_eq_append_getElem h, totS_snoc]

def SzSaid (n left : Int) (xs : List ByteArray) (e : Ending) : Prop :=
  ∃ v : Int, e = .returned (.int .i64 v) ∧ (v = -1 ∨ (0 ≤ v ∧ v + n + totS xs = left))

set_option maxRecDepth 100000 in
set_option maxHeartbeats 1000000 in
theorem szStringS_any (A : Option Addr) (n c : Nat) (left : Int) (xs : List ByteArray) (w : World) (ha : Rd w 1 A n (strCells xs)) (hs : ∀ s ∈ xs, s.size ≤ 9223372036854775807) (hn : n ≤ 9223372036854775807) (h0 : 0 ≤ left) (h1 : left ≤ 1048576) :
    Calls Try.prog 15 #[.slice A n c, .int .i64 left] w fun e w' => SzSaid n left xs e ∧ w = w' := by
  by_cases hnl : (n : Int) ≤ left
  · have HS := Lib.hid hs
    clear hs
    have hxl := ha.slen
    have HXL := Lib.hid hxl
    clear hxl
    go_enter Try.func15, Try.ntmps15
    go_wp2
    go_loop [1, 5] (fun l i => ∃ (k : Nat) (v : Int), k ≤ n ∧ i = .int .i64 k ∧ l = .int .i64 v ∧ 0 ≤ v ∧ v ≤ 1048576 ∧ Hid (v + n + totS (xs.take k) = left)) (fun _ i => n - (intOf i).toNat)
    case atStart => exact ⟨0, _, Nat.zero_le _, rfl, rfl, by omega, by omega, by simp [Hid, totS]⟩
    case round =>
      obtain ⟨k, v, hk, rfl, rfl, hv, hv2, hT⟩ := hrel
      by_cases hlt : k < n
      · obtain ⟨b1, o1, rfl, l1, hx, p1⟩ := ha.str hlt
        have hz := HS.out _ (List.getElem_mem hx)
        generalize hq : xs[k] = q at *
        have HQ := Lib.hid hq
        clear hq
        by_cases hle : (q.size : Int) ≤ v
        · go_wp2
          go_round
          case rel => exact ⟨k + 1, _, by omega, by go_num, rfl, by omega, by omega, (by have h := hT.out; simp only [Hid]; rw [totS_take _ _ hx, HQ.out]; omega)⟩
          case measure => simp [intOf]; omega
        · go_wp2
          go_ret
          exact ⟨⟨-1, rfl, .inl rfl⟩, rfl⟩
      · go_wp2
        go_ret
        have : k = n := by omega
        subst this
        refine ⟨⟨v, rfl, .inr ⟨hv, ?_⟩⟩, rfl⟩
        have h := hT.out
        rw [List.take_of_length_le (by rw [HXL.out]; exact Nat.le_refl _)] at h
        exact h
  · go_enter Try.func15, Try.ntmps15
    go_wp2
    go_ret
    exact ⟨⟨-1, rfl, .inl rfl⟩, rfl⟩

theorem str_info : (Try.prog.info? 9).map (fun i => (i.zero, i.size, i.bytes)) = some (some (.string ByteArray.empty), 1, 16) := by kernel_rfl

theorem take_set1 (cs : List Value) (m : Nat) (a : Value) (h : m < cs.length) : (cs.set m a).take (m + 1) = cs.take m ++ [a] := by
  rw [List.take_succ_eq_append_getElem (by simpa using h), List.take_set_of_le (Nat.le_refl m)]
  simp

set_option maxRecDepth 100000 in
set_option maxHeartbeats 1000000 in
theorem toStringS_any (A : Option Addr) (n c : Nat) (xs : List ByteArray) (w : World) (hr : Rd w 1 A n (strCells xs)) (hn : n ≤ 1048576) :
    Calls Try.prog 17 #[.slice A n c] w fun e w' => ∃ g, e = .returned (.slice (some ⟨g, 0, none⟩) n n) ∧ w'.ownsRow w.heap.size 9 1 (.slice (some ⟨g, 0, none⟩) n n) n (strCells xs) ∧ Below w.heap.size w w' := by
  obtain ⟨i0, hi, hz0, hz1, hz2⟩ := info_parts str_info
  go_enter Try.func17, Try.ntmps17
  go_wp2_with (at_make; refine wpList_make_full _ rfl (.tmp 6) (.tmp 6) 34 rfl w.heap.size 9 i0 (.string ByteArray.empty) 1 Try.underlying34 hi hz0 hz1 .i64 .i64 _ _ n rfl rfl rfl rfl ?b2 ?b3 (Nat.le_refl _) ?_)
  case b2 => rw [hz2]; omega
  case b3 => simp only [maxLen]; omega
  · intro w1 hown hgrow
    have hb1 : Below w.heap.size w w1 := (Below.refl _ _).grown hgrow (Nat.le_refl _) (fun k hk => by cases hk)
    have sw1 := hb1.size
    have hxl : xs.length = n := hr.slen
    have HXL := Lib.hid hxl
    clear hgrow hxl
    go_wp2
    go_loopw [4] (fun i wr => ∃ (k : Nat) (cs : List Value), k ≤ n ∧ i = .int .i64 k ∧ wr.ownsRow w.heap.size 9 1 (.slice (some ⟨w.heap.size, 0, none⟩) n n) n cs ∧ Hid (cs.take k = strCells (xs.take k)) ∧ Below w.heap.size w wr) (fun i _ => n - (intOf i).toNat)
    case atStart => exact ⟨0, _, Nat.zero_le _, rfl, hown, by simp [Hid, strCells], hb1⟩
    case round =>
      clear hown
      obtain ⟨k, cs, hk, rfl, hown, hT, hB⟩ := hrel
      have sB := hB.size
      by_cases hlt : k < n
      · obtain ⟨b, o, rfl, hbl, hx, p1⟩ := (hr.later hB (Nat.le_refl _)).str hlt
        generalize hq : xs[k] = q at *
        have HQ := Lib.hid hq
        clear hq
        have lcs : cs.length = n * 1 := hown.1
        have hgl := hown.lt w.heap.size (by simp [Value.ownBlock])
        have a0 := hown.cellAt k (by omega)
        rw [List.getElem?_eq_getElem (by omega)] at a0
        have f0 := hown.frozenAt k
        have st := (hown.stored k (.string q))
        have ST := Lib.hid st.1
        have HT := Lib.hid (take_set1 cs k (.string q) (by omega))
        generalize cs[k] = v0 at a0
        clear st hown lcs
        go_wp2
        go_roundw
        case rel =>
          refine ⟨k + 1, _, by omega, by go_num, ST.out, ?_, by (repeat (first | (with_reducible exact Below.refl _ _) | (with_reducible assumption) | (with_reducible refine Below.drew ?_) | ((with_reducible refine balloc ?_ _ ?_); · (first | (simp; done) | (simp; omega) | omega)) | ((with_reducible refine bset ?_ _ ?_); · (first | (simp; done) | (simp; omega) | omega)) | (with_reducible refine bdrewN _ ?_) | ((with_reducible refine bcall ?_ (by assumption) ?_); · (first | (simp; done) | (simp; omega) | omega))))⟩
          have h := hT.out
          have h2 := HT.out
          simp only [Hid]
          rw [h2, h, List.take_succ_eq_append_getElem hx, HQ.out, strCells_append]
          rfl
        case measure => simp [intOf]; omega
      · go_wp2
        go_ret
        have hkn : k = n := by omega
        subst hkn
        have h := hT.out
        rw [List.take_of_length_le (by have := hown.1; omega), List.take_of_length_le (by rw [HXL.out]; exact Nat.le_refl _)] at h
        subst h
        exact ⟨w.heap.size, rfl, hown, hB⟩

set_option maxRecDepth 100000 in
set_option maxHeartbeats 1000000 in
theorem eqStringS_any (A C : Option Addr) (n c m d : Nat) (xs ys : List ByteArray) (w : World) (ha : Rd w 1 A n (strCells xs)) (hb : Rd w 1 C m (strCells ys)) (hn : n ≤ 4000000000) (hm : m ≤ 4000000000) :
    Calls Try.prog 19 #[.slice A n c, .slice C m d] w fun e w' => e = .returned (.bool (decide (xs = ys))) ∧ Below w.heap.size w w' := by
  have lx : xs.length = n := ha.slen
  have ly : ys.length = m := hb.slen
  by_cases hnm : n = m
  · subst hnm
    have Lx := Lib.hid lx
    have Ly := Lib.hid ly
    clear lx ly
    go_enter Try.func19, Try.ntmps19
    go_wp2
    go_loopw [5] (fun i wr => ∃ k : Nat, k ≤ n ∧ i = .int .i64 k ∧ Hid (xs.take k = ys.take k) ∧ Below w.heap.size w wr) (fun i _ => n - (intOf i).toNat)
    case atStart => exact ⟨0, Nat.zero_le _, rfl, by simp [Hid], Below.refl _ _⟩
    case round =>
      obtain ⟨k, hk, rfl, hT, hB⟩ := hrel
      by_cases hlt : k < n
      · obtain ⟨b1, o1, rfl, l1, hx, p1⟩ := (ha.later hB (Nat.le_refl _)).str hlt
        obtain ⟨b2, o2, rfl, l2, hy, q1⟩ := (hb.later hB (Nat.le_refl _)).str hlt
        by_cases hd : xs[k] = ys[k]
        · have hD : (xs[k].toList == ys[k].toList) = true := (Lib.bytes_beq_iff _ _).2 hd
          have HD := Lib.hid hd
          clear hd
          generalize hq1 : xs[k] = s1 at *
          generalize hq2 : ys[k] = s2 at *
          have HQ1 := Lib.hid hq1
          have HQ2 := Lib.hid hq2
          clear hq1 hq2
          go_wp2
          go_quiet (fail)
          go_wp2
          go_roundw
          case rel => exact ⟨k + 1, by omega, by go_num, (by have h := hT.out; simp only [Hid]; rw [List.take_succ_eq_append_getElem hx, List.take_succ_eq_append_getElem hy, h, HQ1.out, HQ2.out, HD.out]), by (repeat (first | (with_reducible exact Below.refl _ _) | (with_reducible assumption) | (with_reducible refine Below.drew ?_) | ((with_reducible refine balloc ?_ _ ?_); · (first | (simp; done) | (simp; omega) | omega)) | ((with_reducible refine bset ?_ _ ?_); · (first | (simp; done) | (simp; omega) | omega)) | (with_reducible refine bdrewN _ ?_) | ((with_reducible refine bcall ?_ (by assumption) ?_); · (first | (simp; done) | (simp; omega) | omega))))⟩
          case measure => simp [intOf]; omega
        · have hD : (xs[k].toList == ys[k].toList) = false := (Lib.bytes_beq_false_iff _ _).2 hd
          have HD := Lib.hid hd
          clear hd
          generalize hq1 : xs[k] = s1 at *
          generalize hq2 : ys[k] = s2 at *
          have HQ1 := Lib.hid hq1
          have HQ2 := Lib.hid hq2
          clear hq1 hq2
          go_wp2
          go_quiet (fail)
          go_wp2
          go_ret
          exact ⟨ret_bool (by have a := HQ1.out; have b := HQ2.out; have c := HD.out; simp; intro h; subst h; exact c (a.symm.trans b)), by (repeat (first | (with_reducible exact Below.refl _ _) | (with_reducible assumption) | (with_reducible refine Below.drew ?_) | ((with_reducible refine balloc ?_ _ ?_); · (first | (simp; done) | (simp; omega) | omega)) | ((with_reducible refine bset ?_ _ ?_); · (first | (simp; done) | (simp; omega) | omega)) | (with_reducible refine bdrewN _ ?_) | ((with_reducible refine bcall ?_ (by assumption) ?_); · (first | (simp; done) | (simp; omega) | omega))))⟩
      · go_wp2
        go_ret
        have : k = n := by omega
        subst this
        have lx := Lx.out
        have ly := Ly.out
        exact ⟨ret_bool (by have h := hT.out; rw [List.take_of_length_le (by omega), List.take_of_length_le (by omega)] at h; simp [h]), hB⟩
  · have h1 : ((n : Int) == (m : Int)) = false := by simp; omega
    have h2 : ((n : Int) != (m : Int)) = true := by simp; omega
    go_enter Try.func19, Try.ntmps19
    go_wp2
    go_ret
    exact ⟨ret_bool (by simp; intro h; subst h; omega), Below.refl _ _⟩

theorem eqStringS_same (A C : Option Addr) (n c m d : Nat) (xs : List ByteArray) (w : World) (ha : Rd w 1 A n (strCells xs)) (hb : Rd w 1 C m (strCells xs)) (hn : n ≤ 4000000000) (hm : m ≤ 4000000000) :
    Calls Try.prog 19 #[.slice A n c, .slice C m d] w fun e w' => e = .returned (.bool true) ∧ Below w.heap.size w w' :=
  (eqStringS_any A C n c m d xs xs w ha hb hn hm).mono fun _ _ ⟨he, hB⟩ => ⟨by rw [he]; simp, hB⟩

end Go.Proofs.Ytobncknlipeinaa
