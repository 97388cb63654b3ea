/-
  Contracts: the laws' conversion, comparison and size of slices of breaks.
-/
import Derived.Test.YtjaddijhijnlnaaMake
import Derived.StillTailTactics
namespace Go.Proofs.Ytjaddijhijnlnaa
open Go.RowKit

abbrev brkV (p : Int × Bool × Int) : Value := brk3 p.1 p.2.1 p.2.2
def eqT (p q : Int × Bool × Int) : Bool := decide (p = q)

set_option maxHeartbeats 400000 in
theorem toBreak_any (p : Int) (d : Bool) (t : Int) (w : World) :
    Calls Try.prog 47 #[brk3 p d t] w fun e w' => e = .returned (brk3 p d t) ∧ Below w.heap.size w w' := by
  go_enter Try.func47, Try.ntmps47
  go_wp2
  refine bodyPost_ret (v := brk3 p d t) (by simp [results, Try.results47, go_sem]) rfl ⟨rfl, ?_⟩
  (repeat (first | (with_reducible exact Below.refl _ _) | (with_reducible assumption) | (with_reducible refine Below.drew ?_) | ((with_reducible refine balloc ?_ _ ?_); · (first | (simp; done) | (simp; omega) | omega)) | ((with_reducible refine bset ?_ _ ?_); · (first | (simp; done) | (simp; omega) | omega)) | (with_reducible refine bdrewN _ ?_) | ((with_reducible refine bcall ?_ (by assumption) ?_); · (first | (simp; done) | (simp; omega) | omega))))

set_option maxHeartbeats 400000 in
theorem szBreakS_any (A : Option Addr) (n c : Nat) (w : World) (hn : n ≤ 9223372036854775807) :
    Calls Try.prog 44 #[.slice A n c, .int .i64 1048576] w fun e w' => e = .returned (.int .i64 (if n ≤ 1048576 then 1048576 - (n : Int) else -1)) ∧ w = w' := by
  by_cases h : n ≤ 1048576
  · rw [if_pos h]
    go_enter Try.func44, Try.ntmps44
    go_wp2
    go_ret
    exact ⟨rfl, rfl⟩
  · rw [if_neg h]
    go_enter Try.func44, Try.ntmps44
    go_wp2
    go_ret
    exact ⟨rfl, rfl⟩

set_option maxHeartbeats 400000 in
theorem eqBreak_any (p q : Int × Bool × Int) (w : World) :
    Calls Try.prog 90 #[brkV p, brkV q] w fun e w' => e = .returned (.bool (eqT p q)) ∧ Below w.heap.size w w' := by
  obtain ⟨a, b, c⟩ := p
  obtain ⟨x, y, z⟩ := q
  by_cases h1 : (a == x) = true
  · obtain rfl : a = x := by simpa using h1
    by_cases h2 : (b == y) = true
    · obtain rfl : b = y := by simpa using h2
      by_cases h3 : (c == z) = true
      · obtain rfl : c = z := by simpa using h3
        cases b
        all_goals
          go_enter Try.func90, Try.ntmps90
          go_wp2
          go_ret
          exact ⟨ret_bool (by simp [eqT]), by (repeat (first | (with_reducible exact Below.refl _ _) | (with_reducible assumption) | (with_reducible refine Below.drew ?_) | ((with_reducible refine balloc ?_ _ ?_); · (first | (simp; done) | (simp; omega) | omega)) | ((with_reducible refine bset ?_ _ ?_); · (first | (simp; done) | (simp; omega) | omega)) | (with_reducible refine bdrewN _ ?_) | ((with_reducible refine bcall ?_ (by assumption) ?_); · (first | (simp; done) | (simp; omega) | omega))))⟩
      · have h4 : (c == z) = false := by simpa using h3
        have h5 : (c != z) = true := by simpa using h3
        have h6 : c ≠ z := by simpa using h3
        cases b
        all_goals
          go_enter Try.func90, Try.ntmps90
          go_wp2
          go_ret
          exact ⟨ret_bool (by simp [eqT, h6]), by (repeat (first | (with_reducible exact Below.refl _ _) | (with_reducible assumption) | (with_reducible refine Below.drew ?_) | ((with_reducible refine balloc ?_ _ ?_); · (first | (simp; done) | (simp; omega) | omega)) | ((with_reducible refine bset ?_ _ ?_); · (first | (simp; done) | (simp; omega) | omega)) | (with_reducible refine bdrewN _ ?_) | ((with_reducible refine bcall ?_ (by assumption) ?_); · (first | (simp; done) | (simp; omega) | omega))))⟩
    · cases b <;> cases y <;> simp at h2
      all_goals
        go_enter Try.func90, Try.ntmps90
        go_wp2
        go_ret
        exact ⟨ret_bool (by simp [eqT]), by (repeat (first | (with_reducible exact Below.refl _ _) | (with_reducible assumption) | (with_reducible refine Below.drew ?_) | ((with_reducible refine balloc ?_ _ ?_); · (first | (simp; done) | (simp; omega) | omega)) | ((with_reducible refine bset ?_ _ ?_); · (first | (simp; done) | (simp; omega) | omega)) | (with_reducible refine bdrewN _ ?_) | ((with_reducible refine bcall ?_ (by assumption) ?_); · (first | (simp; done) | (simp; omega) | omega))))⟩
  · have h4 : (a == x) = false := by simpa using h1
    have h5 : (a != x) = true := by simpa using h1
    have h6 : a ≠ x := by simpa using h1
    go_enter Try.func90, Try.ntmps90
    go_wp2
    go_ret
    exact ⟨ret_bool (by simp [eqT, h6]), by (repeat (first | (with_reducible exact Below.refl _ _) | (with_reducible assumption) | (with_reducible refine Below.drew ?_) | ((with_reducible refine balloc ?_ _ ?_); · (first | (simp; done) | (simp; omega) | omega)) | ((with_reducible refine bset ?_ _ ?_); · (first | (simp; done) | (simp; omega) | omega)) | (with_reducible refine bdrewN _ ?_) | ((with_reducible refine bcall ?_ (by assumption) ?_); · (first | (simp; done) | (simp; omega) | omega))))⟩

set_option maxRecDepth 100000 in
set_option maxHeartbeats 1000000 in
theorem eqBreakS_any (A C : Option Addr) (n c m d : Nat) (xs ys : List (Int × Bool × Int)) (w : World) (ha : Rd w 3 A n (tripCells xs)) (hb : Rd w 3 C m (tripCells ys)) (hn : n ≤ 4000000000) (hm : m ≤ 4000000000) :
    Calls Try.prog 49 #[.slice A n c, .slice C m d] w fun e w' => e = .returned (.bool (decide (xs = ys))) ∧ Below w.heap.size w w' := by
  have lx : xs.length = n := by have := ha.1; rw [length_tripCells] at this; omega
  have ly : ys.length = m := by have := hb.1; rw [length_tripCells] at this; omega
  by_cases hnm : n = m
  · subst hnm
    have Lx := Lib.hid lx
    have Ly := Lib.hid ly
    clear lx ly
    go_enter Try.func49, Try.ntmps49
    go_wp2
    go_loopw [5] (fun i wr => ∃ k : Nat, k ≤ n ∧ i = .int .i64 k ∧ Hid (xs.take k = ys.take k) ∧ Below w.heap.size w wr) (fun i _ => n - (intOf i).toNat)
    case atStart => exact ⟨0, Nat.zero_le _, rfl, by simp [Hid], Below.refl _ _⟩
    case round =>
      obtain ⟨k, hk, rfl, hT, hB⟩ := hrel
      by_cases hlt : k < n
      · obtain ⟨b1, o1, rfl, l1, hx, p1, p2, p3⟩ := (ha.later hB (Nat.le_refl _)).trip hlt
        obtain ⟨b2, o2, rfl, l2, hy, q1, q2, q3⟩ := (hb.later hB (Nat.le_refl _)).trip hlt
        go_wp2
        go_still_tail 8, (by kernel_rfl)
        change wpList _ _ _ _ _ wr.drew
        have hB2 := hB.drew
        generalize wr.drew = w2 at hB2 ⊢
        have sB2 := hB2.size
        clear p1 p2 p3 q1 q2 q3 l1 l2 hB
        cases hd : eqT (xs[k]) (ys[k])
        ·
          go_wp2_with fail
          refine (eqBreak_any _ _ _).mono ?_; rintro e w1 ⟨rfl, hb1⟩; have s1 := hb1.size; obtain ⟨hc1, hf1⟩ := bcell hb1
          go_wp2
          go_ret
          exact ⟨ret_bool (by simp; intro h; subst h; simp [eqT] at hd), by (repeat (first | (with_reducible exact Below.refl _ _) | (with_reducible assumption) | (with_reducible refine Below.drew ?_) | ((with_reducible refine balloc ?_ _ ?_); · (first | (simp; done) | (simp; omega) | omega)) | ((with_reducible refine bset ?_ _ ?_); · (first | (simp; done) | (simp; omega) | omega)) | (with_reducible refine bdrewN _ ?_) | ((with_reducible refine bcall ?_ (by assumption) ?_); · (first | (simp; done) | (simp; omega) | omega))))⟩
        ·
          go_wp2_with fail
          refine (eqBreak_any _ _ _).mono ?_; rintro e w1 ⟨rfl, hb1⟩; have s1 := hb1.size; obtain ⟨hc1, hf1⟩ := bcell hb1
          go_wp2
          go_roundw
          case rel => exact ⟨k + 1, by omega, by go_num, (by have h := hT.out; simp only [Hid]; rw [List.take_succ_eq_append_getElem hx, List.take_succ_eq_append_getElem hy, h]; have h2 : xs[k] = ys[k] := (by simpa [eqT] using hd); rw [h2]), by (repeat (first | (with_reducible exact Below.refl _ _) | (with_reducible assumption) | (with_reducible refine Below.drew ?_) | ((with_reducible refine balloc ?_ _ ?_); · (first | (simp; done) | (simp; omega) | omega)) | ((with_reducible refine bset ?_ _ ?_); · (first | (simp; done) | (simp; omega) | omega)) | (with_reducible refine bdrewN _ ?_) | ((with_reducible refine bcall ?_ (by assumption) ?_); · (first | (simp; done) | (simp; omega) | omega))))⟩
          case measure => simp [intOf]; omega
      · go_wp2
        go_ret
        have : k = n := by omega
        subst this
        have lx := Lx.out
        have ly := Ly.out
        exact ⟨ret_bool (by have h := hT.out; rw [List.take_of_length_le (by omega), List.take_of_length_le (by omega)] at h; simp [h]), hB⟩
  · have h1 : ((n : Int) == (m : Int)) = false := by simp; omega
    have h2 : ((n : Int) != (m : Int)) = true := by simp; omega
    go_enter Try.func49, Try.ntmps49
    go_wp2
    go_ret
    exact ⟨ret_bool (by simp; intro h; subst h; omega), Below.refl _ _⟩

theorem take_set3 (cs : List Value) (m : Nat) (a b c : Value) (h : m + 3 ≤ cs.length) : (((cs.set m a).set (m + 1) b).set (m + 2) c).take (m + 3) = cs.take m ++ [a, b, c] := by
  apply List.ext_getElem?
  intro j
  simp only [List.getElem?_take, List.getElem?_append, List.getElem?_set, List.length_set, List.length_take]
  by_cases h1 : j < m
  · rw [if_pos (by omega), if_neg (by omega), if_neg (by omega), if_neg (by omega), if_pos (by omega), if_pos h1]
  · by_cases h2 : j = m
    · subst h2
      rw [if_pos (by omega), if_neg (by omega), if_neg (by omega), if_pos rfl, if_pos (by omega), if_neg (by omega)]
      rw [show j - min j cs.length = 0 by omega]; rfl
    · by_cases h3 : j = m + 1
      · subst h3
        rw [if_pos (by omega), if_neg (by omega), if_pos rfl, if_pos (by omega), if_neg (by omega)]
        rw [show m + 1 - min m cs.length = 1 by omega]; rfl
      · by_cases h4 : j = m + 2
        · subst h4
          rw [if_pos (by omega), if_pos rfl, if_pos (by omega), if_neg (by omega)]
          rw [show m + 2 - min m cs.length = 2 by omega]; rfl
        · rw [if_neg (by omega), if_neg (by omega)]
          symm
          apply List.getElem?_eq_none
          simp; omega
theorem brk_info : (Try.prog.info? 63).map (fun i => (i.zero, i.size, i.bytes)) = some (some (brk3 0 false 0), 3, 24) := by kernel_rfl

set_option maxRecDepth 100000 in
set_option maxHeartbeats 1000000 in
theorem toBreakS_any (A : Option Addr) (n c : Nat) (xs : List (Int × Bool × Int)) (w : World) (hr : Rd w 3 A n (tripCells xs)) (hn : n ≤ 1048576) :
    Calls Try.prog 46 #[.slice A n c] w fun e w' => ∃ g, e = .returned (.slice (some ⟨g, 0, none⟩) n n) ∧ w'.ownsRow w.heap.size 63 3 (.slice (some ⟨g, 0, none⟩) n n) n (tripCells xs) ∧ Below w.heap.size w w' := by
  obtain ⟨i0, hi, hz0, hz1, hz2⟩ := info_parts brk_info
  go_enter Try.func46, Try.ntmps46
  go_wp2_with (at_make; refine wpList_make_full _ rfl (.tmp 6) (.tmp 6) 61 rfl w.heap.size 63 i0 (brk3 0 false 0) 3 Try.underlying61 hi hz0 hz1 .i64 .i64 _ _ n rfl rfl rfl rfl ?b2 ?b3 (Nat.le_refl _) ?_)
  case b2 => rw [hz2]; omega
  case b3 => simp only [maxLen]; omega
  · intro w1 hown hgrow
    have hb1 : Below w.heap.size w w1 := (Below.refl _ _).grown hgrow (Nat.le_refl _) (fun k hk => by cases hk)
    have sw1 := hb1.size
    have hxl : xs.length = n := by have := hr.1; rw [length_tripCells] at this; omega
    have HXL := Lib.hid hxl
    clear hgrow hxl
    go_wp2
    go_loopw [4] (fun i wr => ∃ (k : Nat) (cs : List Value), k ≤ n ∧ i = .int .i64 k ∧ wr.ownsRow w.heap.size 63 3 (.slice (some ⟨w.heap.size, 0, none⟩) n n) n cs ∧ Hid (cs.take (k * 3) = tripCells (xs.take k)) ∧ Below w.heap.size w wr) (fun i _ => n - (intOf i).toNat)
    case atStart => exact ⟨0, _, Nat.zero_le _, rfl, hown, by simp [Hid, tripCells], hb1⟩
    case round =>
      clear hown
      obtain ⟨k, cs, hk, rfl, hown, hT, hB⟩ := hrel
      have sB := hB.size
      by_cases hlt : k < n
      · obtain ⟨b, o, rfl, hbl, hx, p1, p2, p3⟩ := (hr.later hB (Nat.le_refl _)).trip hlt
        generalize hq : xs[k] = q at *
        obtain ⟨p, d, t⟩ := q
        simp only at p1 p2 p3
        have HQ := Lib.hid hq
        clear hq
        go_wp2_with fail
        refine (toBreak_any _ _ _ _).mono ?_; rintro e w3 ⟨rfl, hb3⟩
        have s3 := hb3.size
        have own3 := own_later hown hb3 (Nat.le_refl _)
        have lcs : cs.length = n * 3 := own3.1
        have hgl := own3.lt w.heap.size (by simp [Value.ownBlock])
        have a0 := own3.cellAt (k * 3) (by omega)
        have a1 := own3.cellAt (k * 3 + 1) (by omega)
        have a2 := own3.cellAt (k * 3 + 2) (by omega)
        rw [List.getElem?_eq_getElem (by omega)] at a0 a1 a2
        have f0 := own3.frozenAt (k * 3)
        have f1 := own3.frozenAt (k * 3 + 1)
        have f2 := own3.frozenAt (k * 3 + 2)
        have st := ((own3.stored (k * 3) (.int .i64 p)).1.stored (k * 3 + 1) (.bool d)).1.stored (k * 3 + 2) (.int .i64 t)
        have ST := Lib.hid st.1
        have HT := Lib.hid (take_set3 cs (k * 3) (.int .i64 p) (.bool d) (.int .i64 t) (by omega))
        have LCS := Lib.hid lcs
        generalize cs[k * 3] = v0 at a0
        generalize cs[k * 3 + 1] = v1 at a1
        generalize cs[k * 3 + 2] = v2 at a2
        clear st own3 hown p1 p2 p3 lcs
        go_wp2
        go_roundw
        case rel =>
          refine ⟨k + 1, _, by omega, by go_num, ST.out, ?_, by (repeat (first | (with_reducible exact Below.refl _ _) | (with_reducible assumption) | (with_reducible refine Below.drew ?_) | ((with_reducible refine balloc ?_ _ ?_); · (first | (simp; done) | (simp; omega) | omega)) | ((with_reducible refine bset ?_ _ ?_); · (first | (simp; done) | (simp; omega) | omega)) | (with_reducible refine bdrewN _ ?_) | ((with_reducible refine bcall ?_ (by assumption) ?_); · (first | (simp; done) | (simp; omega) | omega))))⟩
          have h := hT.out
          have h2 := HT.out
          simp only [Hid]
          rw [show (k + 1) * 3 = k * 3 + 3 by omega, h2, h, List.take_succ_eq_append_getElem hx, HQ.out, tripCells_append]
          rfl
        case measure => simp [intOf]; omega
      · go_wp2
        go_ret
        have hkn : k = n := by omega
        subst hkn
        have h := hT.out
        rw [List.take_of_length_le (by rw [hown.1]; exact Nat.le_refl _), List.take_of_length_le (by rw [HXL.out]; exact Nat.le_refl _)] at h
        subst h
        exact ⟨w.heap.size, rfl, hown, hB⟩

end Go.Proofs.Ytjaddijhijnlnaa
