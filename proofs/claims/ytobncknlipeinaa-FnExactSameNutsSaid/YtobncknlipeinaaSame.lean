/-
  Contracts: SameNuts of the program and of the model.
-/
import Derived.Test.YtobncknlipeinaaTurnI
import Derived.Deep.QuietTactic
import Derived.BigQuiet
import Derived.Lib.SlicesS
namespace Go.Proofs.Ytobncknlipeinaa
open Go.RowKit

set_option maxRecDepth 100000 in
set_option maxHeartbeats 1000000 in
theorem l1SameS_any (A C : Option Addr) (n c m d : Nat) (xs ys : List ByteArray) (w : World) (ha : Rd w 1 A n (strCells xs)) (hb : Rd w 1 C m (strCells ys)) (hn : n ≤ 4000000000) (hm : m ≤ 4000000000) :
    Calls Try.prog 39 #[.slice A n c, .slice C m d] w fun e w' => e = .returned (.bool (decide (xs = ys))) ∧ Below w.heap.size w w' := by
  have lx : xs.length = n := ha.slen
  have ly : ys.length = m := hb.slen
  by_cases hnm : n = m
  · subst hnm
    have Lx := Lib.hid lx
    have Ly := Lib.hid ly
    clear lx ly
    go_enter Try.func39, Try.ntmps39
    go_wp2
    go_loopw [13] (fun i wr => ∃ k : Nat, k ≤ n ∧ i = .int .i64 k ∧ Hid (xs.take k = ys.take k) ∧ Below w.heap.size w wr) (fun i _ => n - (intOf i).toNat)
    case atStart => exact ⟨0, Nat.zero_le _, rfl, by simp [Hid], Below.refl _ _⟩
    case round =>
      obtain ⟨k, hk, rfl, hT, hB⟩ := hrel
      by_cases hlt : k < n
      · obtain ⟨b1, o1, rfl, l1, hx, p1⟩ := (ha.later hB (Nat.le_refl _)).str hlt
        obtain ⟨b2, o2, rfl, l2, hy, q1⟩ := (hb.later hB (Nat.le_refl _)).str hlt
        by_cases hd : xs[k] = ys[k]
        · have hD : (xs[k].toList == ys[k].toList) = true := (Lib.bytes_beq_iff _ _).2 hd
          have HD := Lib.hid hd
          clear hd
          generalize hq1 : xs[k] = s1 at *
          generalize hq2 : ys[k] = s2 at *
          have HQ1 := Lib.hid hq1
          have HQ2 := Lib.hid hq2
          clear hq1 hq2
          go_wp2
          go_quiet (fail)
          go_wp2
          go_roundw
          case rel => exact ⟨k + 1, by omega, by go_num, (by have h := hT.out; simp only [Hid]; rw [List.take_succ_eq_append_getElem hx, List.take_succ_eq_append_getElem hy, h, HQ1.out, HQ2.out, HD.out]), by (repeat (first | (with_reducible exact Below.refl _ _) | (with_reducible assumption) | (with_reducible refine Below.drew ?_) | ((with_reducible refine balloc ?_ _ ?_); · (first | (simp; done) | (simp; omega) | omega)) | ((with_reducible refine bset ?_ _ ?_); · (first | (simp; done) | (simp; omega) | omega)) | (with_reducible refine bdrewN _ ?_) | ((with_reducible refine bcall ?_ (by assumption) ?_); · (first | (simp; done) | (simp; omega) | omega))))⟩
          case measure => simp [intOf]; omega
        · have hD : (xs[k].toList == ys[k].toList) = false := (Lib.bytes_beq_false_iff _ _).2 hd
          have HD := Lib.hid hd
          clear hd
          generalize hq1 : xs[k] = s1 at *
          generalize hq2 : ys[k] = s2 at *
          have HQ1 := Lib.hid hq1
          have HQ2 := Lib.hid hq2
          clear hq1 hq2
          go_wp2
          go_quiet (fail)
          go_wp2
          go_ret
          exact ⟨ret_bool (by have a := HQ1.out; have b := HQ2.out; have c := HD.out; simp; intro h; subst h; exact c (a.symm.trans b)), by (repeat (first | (with_reducible exact Below.refl _ _) | (with_reducible assumption) | (with_reducible refine Below.drew ?_) | ((with_reducible refine balloc ?_ _ ?_); · (first | (simp; done) | (simp; omega) | omega)) | ((with_reducible refine bset ?_ _ ?_); · (first | (simp; done) | (simp; omega) | omega)) | (with_reducible refine bdrewN _ ?_) | ((with_reducible refine bcall ?_ (by assumption) ?_); · (first | (simp; done) | (simp; omega) | omega))))⟩
      · go_wp2
        go_ret
        have : k = n := by omega
        subst this
        have lx := Lx.out
        have ly := Ly.out
        exact ⟨ret_bool (by have h := hT.out; rw [List.take_of_length_le (by omega), List.take_of_length_le (by omega)] at h; simp [h]), hB⟩
  · have h1 : ((n : Int) == (m : Int)) = false := by simp; omega
    have h2 : ((n : Int) != (m : Int)) = true := by simp; omega
    go_enter Try.func39, Try.ntmps39
    go_wp2
    go_ret
    exact ⟨ret_bool (by simp; intro h; subst h; omega), Below.refl _ _⟩


set_option maxRecDepth 100000 in
set_option maxHeartbeats 1000000 in
theorem slEqual_any (A C : Option Addr) (n c m d : Nat) (xs ys : List ByteArray) (w : World) (ha : Rd w 1 A n (strCells xs)) (hb : Rd w 1 C m (strCells ys)) (hn : n ≤ 4000000000) (hm : m ≤ 4000000000) :
    Calls Try.prog 40 #[.slice A n c, .slice C m d] w fun e w' => e = .returned (.bool (decide (xs = ys))) ∧ Below w.heap.size w w' := by
  have lx : xs.length = n := ha.slen
  have ly : ys.length = m := hb.slen
  by_cases hnm : n = m
  · subst hnm
    have Lx := Lib.hid lx
    have Ly := Lib.hid ly
    clear lx ly
    go_enter Try.func40, Try.ntmps40
    go_wp2
    go_loopw [13] (fun i wr => ∃ k : Nat, k ≤ n ∧ i = .int .i64 k ∧ Hid (xs.take k = ys.take k) ∧ Below w.heap.size w wr) (fun i _ => n - (intOf i).toNat)
    case atStart => exact ⟨0, Nat.zero_le _, rfl, by simp [Hid], Below.refl _ _⟩
    case round =>
      obtain ⟨k, hk, rfl, hT, hB⟩ := hrel
      by_cases hlt : k < n
      · obtain ⟨b1, o1, rfl, l1, hx, p1⟩ := (ha.later hB (Nat.le_refl _)).str hlt
        obtain ⟨b2, o2, rfl, l2, hy, q1⟩ := (hb.later hB (Nat.le_refl _)).str hlt
        by_cases hd : xs[k] = ys[k]
        · have hD : (xs[k].toList == ys[k].toList) = true := (Lib.bytes_beq_iff _ _).2 hd
          have HD := Lib.hid hd
          clear hd
          generalize hq1 : xs[k] = s1 at *
          generalize hq2 : ys[k] = s2 at *
          have HQ1 := Lib.hid hq1
          have HQ2 := Lib.hid hq2
          clear hq1 hq2
          go_wp2
          go_quiet (fail)
          go_wp2
          go_roundw
          case rel => exact ⟨k + 1, by omega, by go_num, (by have h := hT.out; simp only [Hid]; rw [List.take_succ_eq_append_getElem hx, List.take_succ_eq_append_getElem hy, h, HQ1.out, HQ2.out, HD.out]), by (repeat (first | (with_reducible exact Below.refl _ _) | (with_reducible assumption) | (with_reducible refine Below.drew ?_) | ((with_reducible refine balloc ?_ _ ?_); · (first | (simp; done) | (simp; omega) | omega)) | ((with_reducible refine bset ?_ _ ?_); · (first | (simp; done) | (simp; omega) | omega)) | (with_reducible refine bdrewN _ ?_) | ((with_reducible refine bcall ?_ (by assumption) ?_); · (first | (simp; done) | (simp; omega) | omega))))⟩
          case measure => simp [intOf]; omega
        · have hD : (xs[k].toList == ys[k].toList) = false := (Lib.bytes_beq_false_iff _ _).2 hd
          have HD := Lib.hid hd
          clear hd
          generalize hq1 : xs[k] = s1 at *
          generalize hq2 : ys[k] = s2 at *
          have HQ1 := Lib.hid hq1
          have HQ2 := Lib.hid hq2
          clear hq1 hq2
          go_wp2
          go_quiet (fail)
          go_wp2
          go_ret
          exact ⟨ret_bool (by have a := HQ1.out; have b := HQ2.out; have c := HD.out; simp; intro h; subst h; exact c (a.symm.trans b)), by (repeat (first | (with_reducible exact Below.refl _ _) | (with_reducible assumption) | (with_reducible refine Below.drew ?_) | ((with_reducible refine balloc ?_ _ ?_); · (first | (simp; done) | (simp; omega) | omega)) | ((with_reducible refine bset ?_ _ ?_); · (first | (simp; done) | (simp; omega) | omega)) | (with_reducible refine bdrewN _ ?_) | ((with_reducible refine bcall ?_ (by assumption) ?_); · (first | (simp; done) | (simp; omega) | omega))))⟩
      · go_wp2
        go_ret
        have : k = n := by omega
        subst this
        have lx := Lx.out
        have ly := Ly.out
        exact ⟨ret_bool (by have h := hT.out; rw [List.take_of_length_le (by omega), List.take_of_length_le (by omega)] at h; simp [h]), hB⟩
  · have h1 : ((n : Int) == (m : Int)) = false := by simp; omega
    have h2 : ((n : Int) != (m : Int)) = true := by simp; omega
    go_enter Try.func40, Try.ntmps40
    go_wp2
    go_ret
    exact ⟨ret_bool (by simp; intro h; subst h; omega), Below.refl _ _⟩


theorem nutByte_turn {ss : List ByteArray} {n W y x : Nat} (hy : y < W) (hx : x < n) : nutByte (turnL ss n W) y x = nutByte ss (n - 1 - x) y := by
  conv => lhs; unfold nutByte
  have e : (turnL ss n W)[y]? = some (colS ss n y n) := by simp [turnL, hy]
  rw [e, Option.getD_some]
  simp [colS, colL, hx]
theorem NB.turn {ss : List ByteArray} {n W : Nat} (h : NB ss W n) : NB (turnL ss n W) n W := by
  refine ⟨length_turnL _ _ _, h.w1, h.w8, h.h1, h.h8, fun s hs => ?_⟩
  simp only [turnL, List.mem_map, List.mem_range] at hs
  obtain ⟨x, hx, rfl⟩ := hs
  refine ⟨size_colS _ _ _ _, ?_⟩
  show (colL ss n x n).toArray.toList.all digB = true
  rw [List.all_eq_true]
  intro c hc
  simp only [colL, List.mem_map, List.mem_range] at hc
  obtain ⟨i, hi, rfl⟩ := hc
  have := h.byte (y := n - 1 - i) (x := x) (by omega) hx
  simp [digB]
  omega
theorem NB.ext {a b : List ByteArray} {W H : Nat} (ha : NB a W H) (hb : NB b W H) (h : ∀ y x, y < H → x < W → nutByte a y x = nutByte b y x) : a = b := by
  apply List.ext_getElem
  · rw [ha.len, hb.len]
  · intro y h1 h2
    have sa := (ha.row _ (List.getElem_mem h1)).1
    have sb := (hb.row _ (List.getElem_mem h2)).1
    apply ByteArray.ext
    apply Array.ext
    · show (a[y]).size = (b[y]).size
      rw [sa, sb]
    · intro x hx1 hx2
      have hx1' : x < (a[y]).size := hx1
      have q := h y x (by rw [← ha.len]; exact h1) (by rw [← sa]; exact hx1')
      rw [← nutByte_at h1 hx1', ← nutByte_at h2 hx2] at q
      exact q
theorem turn_four {ss : List ByteArray} {n W : Nat} (h : NB ss W n) : turnL (turnL (turnL (turnL ss n W) W n) n W) W n = ss := by
  refine NB.ext h.turn.turn.turn.turn h fun y x hy hx => ?_
  rw [nutByte_turn hy hx, nutByte_turn (by omega) hy, nutByte_turn (by omega) (by omega), nutByte_turn (by omega) (by omega)]
  congr 1 <;> omega
/-- a bar turned k times -/
def turnK (ss : List ByteArray) : Nat → List ByteArray
  | 0 => ss
  | k + 1 => turnR (turnK ss k)
theorem NB.turnR {ss : List ByteArray} {W H : Nat} (h : NB ss W H) : ∃ W' H', NB (Go.Proofs.Ytobncknlipeinaa.turnR ss) W' H' := by
  rw [turnR_yes h]
  exact ⟨_, _, h.turn⟩
theorem NB.turnK {ss : List ByteArray} {W H : Nat} (h : NB ss W H) (k : Nat) : ∃ W' H', NB (Go.Proofs.Ytobncknlipeinaa.turnK ss k) W' H' := by
  induction k with
  | zero => exact ⟨W, H, h⟩
  | succ k ih =>
    obtain ⟨_, _, q⟩ := ih
    exact q.turnR
theorem turnK_four {ss : List ByteArray} {W H : Nat} (h : NB ss W H) : turnK ss 4 = ss := by
  show turnR (turnR (turnR (turnR ss))) = ss
  rw [turnR_yes h, turnR_yes h.turn, turnR_yes h.turn.turn, turnR_yes h.turn.turn.turn]
  exact turn_four h
/-- whether one of the first k turns is b -/
def anyT (a b : List ByteArray) (k : Nat) : Bool := (List.range k).any fun i => decide (turnK a i = b)
def anyT1 (a b : List ByteArray) (k : Nat) : Bool := (List.range k).any fun i => decide (turnK a (i + 1) = b)
theorem anyT_succ (a b : List ByteArray) (k : Nat) : anyT a b (k + 1) = (anyT a b k || decide (turnK a k = b)) := by simp [anyT, List.range_succ]
theorem anyT1_succ (a b : List ByteArray) (k : Nat) : anyT1 a b (k + 1) = (anyT1 a b k || decide (turnK a (k + 1) = b)) := by simp [anyT1, List.range_succ]
theorem anyT_hit {a b : List ByteArray} {k : Nat} (hk : k < 4) (h : decide (turnK a k = b) = true) : anyT a b 4 = true := by
  simp only [anyT, List.any_eq_true, List.mem_range]
  exact ⟨k, hk, h⟩
theorem anyT_anyT1 {a b : List ByteArray} {W H : Nat} (h : NB a W H) : anyT a b 4 = anyT1 a b 4 := by
  have e := turnK_four h
  simp only [anyT, anyT1, List.range_succ, List.range_zero, List.nil_append, List.cons_append, List.any_cons, List.any_nil, Bool.or_false]
  rw [e]
  have e0 : turnK a 0 = a := rfl
  rw [e0]
  simp only [Nat.zero_add, Nat.reduceAdd]
  cases decide (a = b) <;> cases decide (turnK a 1 = b) <;> cases decide (turnK a 2 = b) <;> cases decide (turnK a 3 = b) <;> rfl

def sameV (a b : List ByteArray) : Bool := nutsB a && nutsB b && anyT a b 4
def sameOk (a b : List ByteArray) : Bool := nutsB a && nutsB b

set_option maxRecDepth 100000 in
set_option maxHeartbeats 4000000 in
theorem sSameNuts_any (A : Option Addr) (n c : Nat) (xs : List ByteArray) (C : Option Addr) (m d : Nat) (ys : List ByteArray) (w : World) (ha : Rd w 1 A n (strCells xs)) (hb : Rd w 1 C m (strCells ys)) (hn : n ≤ 1048576) (hm : m ≤ 1048576) :
    Calls Try.prog 22 #[.slice A n c, .slice C m d] w fun e w' => e = .returned (.tuple #[.bool (sameV xs ys), .bool (sameOk xs ys)]) ∧ Below w.heap.size w w' := by
  cases hA : nutsB xs
  · have h1 : sameV xs ys = false := by simp [sameV, hA]
    have h2 : sameOk xs ys = false := by simp [sameOk, hA]
    rw [h1, h2]
    clear h1 h2
    go_enter Try.func22, Try.ntmps22
    go_wp2_with fail
    refine (ntGood_any _ _ _ _ _ ha).mono ?_; rintro e w1 ⟨rfl, rfl⟩
    go_wp2
    go_ret2
    exact ⟨rfl, Below.refl _ _⟩
  · cases hB : nutsB ys
    · have h1 : sameV xs ys = false := by simp [sameV, hB]
      have h2 : sameOk xs ys = false := by simp [sameOk, hB]
      rw [h1, h2]
      clear h1 h2
      go_enter Try.func22, Try.ntmps22
      go_wp2_with fail
      refine (ntGood_any _ _ _ _ _ ha).mono ?_; rintro e w1 ⟨rfl, rfl⟩
      go_wp2_with fail
      refine (ntGood_any _ _ _ _ _ hb).mono ?_; rintro e w1 ⟨rfl, rfl⟩
      go_wp2
      go_ret2
      exact ⟨rfl, Below.refl _ _⟩
    · have nb := NB.of hA
      have h2 : sameOk xs ys = true := by simp [sameOk, hA, hB]
      have h1 : sameV xs ys = anyT1 xs ys 4 := by rw [← anyT_anyT1 nb]; simp [sameV, hA, hB]
      have hlx := ha.slen
      rw [h1, h2]
      clear h1 h2
      have H8 : n ≤ 8 := by have := nb.h8; omega
      have HLX := Lib.hid hlx
      clear hlx
      go_enter Try.func22, Try.ntmps22
      go_wp2_with fail
      refine (ntGood_any _ _ _ _ _ ha).mono ?_; rintro e w1 ⟨rfl, rfl⟩
      go_wp2_with fail
      refine (ntGood_any _ _ _ _ _ hb).mono ?_; rintro e w1 ⟨rfl, rfl⟩
      go_wp2
      clear hA hB
      go_loopw [0, 6, 7] (fun a s i wr => ∃ (k : Nat) (A' : Option Addr) (n' c' : Nat), k ≤ 4 ∧ i = .int .i64 k ∧ a = .slice A' n' c' ∧ s = .bool (anyT1 xs ys k) ∧ n' ≤ 8 ∧ Rd wr 1 A' n' (strCells (turnK xs k)) ∧ Below w.heap.size w wr) (fun _ _ i _ => 4 - (intOf i).toNat)
      case atStart => exact ⟨0, A, n, c, by omega, rfl, rfl, rfl, H8, ha, Below.refl _ _⟩
      case round =>
        obtain ⟨k, A', n', c', hk, rfl, rfl, rfl, hn', hr, hW⟩ := hrel
        have sW := hW.size
        by_cases hlt : k < 4
        · obtain ⟨W', H', nbk⟩ := nb.turnK k
          have hl : H' = n' := by have h1 := nbk.len; have h2 := hr.slen; omega
          subst hl
          go_wp2_with fail
          refine (ntTurn_any _ _ _ W' _ _ hr nbk).mono ?_; rintro e w2 ⟨A2, n2, c2, rfl, own2, hb2⟩
          rw [← turnR_yes nbk] at own2
          have hW2 : Below w.heap.size w w2 := bcall sW hb2 hW
          have r2 : Rd w2 1 A2 n2 (strCells (turnK xs (k + 1))) := Rd.of_own own2
          have l2 : n2 ≤ 8 := by have h := r2.slen; have h3 := length_turnR (turnK xs k); have e : (turnK xs (k + 1)).length = (turnR (turnK xs k)).length := rfl; omega
          clear hr own2 hb2 sW hW
          have HS := Lib.hid (anyT1_succ xs ys k)
          have sW2 := hW2.size
          cases hq : anyT1 xs ys k
          · go_wp2_with fail
            refine (l1SameS_any _ _ _ _ _ _ _ ys _ r2 (hb.later hW2 (Nat.le_refl _)) (by omega) (by omega)).mono ?_; rintro e w3 ⟨rfl, hb3⟩
            have HQ := Lib.hid hq
            clear hq
            go_wp2
            go_roundw
            case rel => exact ⟨k + 1, A2, n2, c2, by omega, by go_num, rfl, by rw [HS.out, HQ.out, Bool.false_or], l2, r2.later hb3 (Nat.le_refl _), bcall sW2 hb3 hW2⟩
            case measure => simp [intOf]; omega
          · have HQ := Lib.hid hq
            go_wp2
            go_roundw
            case rel => exact ⟨k + 1, A2, n2, c2, by omega, by go_num, rfl, by rw [HS.out, HQ.out, Bool.true_or], l2, r2, hW2⟩
            case measure => simp [intOf]; omega
        · have : k = 4 := by omega
          subst this
          go_wp2
          go_ret2
          exact ⟨rfl, hW⟩

set_option maxRecDepth 100000 in
set_option maxHeartbeats 4000000 in
theorem sameNuts_any (A : Option Addr) (n c : Nat) (xs : List ByteArray) (C : Option Addr) (m d : Nat) (ys : List ByteArray) (w : World) (ha : Rd w 1 A n (strCells xs)) (hb : Rd w 1 C m (strCells ys)) (hn : n ≤ 1048576) (hm : m ≤ 1048576) :
    Calls Try.prog 23 #[.slice A n c, .slice C m d] w fun e w' => e = .returned (.tuple #[.bool (sameV xs ys), .bool (sameOk xs ys)]) ∧ Below w.heap.size w w' := by
  cases hA : nutsB xs
  · have h1 : sameV xs ys = false := by simp [sameV, hA]
    have h2 : sameOk xs ys = false := by simp [sameOk, hA]
    rw [h1, h2]
    clear h1 h2
    go_enter Try.func23, Try.ntmps23
    go_wp2_with fail
    refine (areNuts_any _ _ _ _ _ ha).mono ?_; rintro e w1 ⟨rfl, rfl⟩
    go_wp2
    go_ret2
    exact ⟨rfl, Below.refl _ _⟩
  · cases hB : nutsB ys
    · have h1 : sameV xs ys = false := by simp [sameV, hB]
      have h2 : sameOk xs ys = false := by simp [sameOk, hB]
      rw [h1, h2]
      clear h1 h2
      go_enter Try.func23, Try.ntmps23
      go_wp2_with fail
      refine (areNuts_any _ _ _ _ _ ha).mono ?_; rintro e w1 ⟨rfl, rfl⟩
      go_wp2_with fail
      refine (areNuts_any _ _ _ _ _ hb).mono ?_; rintro e w1 ⟨rfl, rfl⟩
      go_wp2
      go_ret2
      exact ⟨rfl, Below.refl _ _⟩
    · have nb := NB.of hA
      have h2 : sameOk xs ys = true := by simp [sameOk, hA, hB]
      have h1 : sameV xs ys = anyT xs ys 4 := by simp [sameV, hA, hB]
      have hlx := ha.slen
      rw [h1, h2]
      clear h1 h2
      have H8 : n ≤ 8 := by have := nb.h8; omega
      have HLX := Lib.hid hlx
      clear hlx
      go_enter Try.func23, Try.ntmps23
      go_wp2_with fail
      refine (areNuts_any _ _ _ _ _ ha).mono ?_; rintro e w1 ⟨rfl, rfl⟩
      go_wp2_with fail
      refine (areNuts_any _ _ _ _ _ hb).mono ?_; rintro e w1 ⟨rfl, rfl⟩
      go_wp2
      clear hA hB
      go_loopw [6, 16] (fun a i wr => ∃ (k : Nat) (A' : Option Addr) (n' c' : Nat), k ≤ 4 ∧ i = .int .i64 k ∧ a = .slice A' n' c' ∧ Hid (anyT xs ys k = false) ∧ n' ≤ 8 ∧ Rd wr 1 A' n' (strCells (turnK xs k)) ∧ Below w.heap.size w wr) (fun _ i _ => 4 - (intOf i).toNat)
      case atStart => exact ⟨0, A, n, c, by omega, rfl, rfl, rfl, H8, ha, Below.refl _ _⟩
      case round =>
        obtain ⟨k, A', n', c', hk, rfl, rfl, hT, hn', hr, hW⟩ := hrel
        have sW := hW.size
        by_cases hlt : k < 4
        · obtain ⟨W', H', nbk⟩ := nb.turnK k
          have hl : H' = n' := by have h1 := nbk.len; have h2 := hr.slen; omega
          subst hl
          go_wp2_with fail
          refine (slEqual_any _ _ _ _ _ _ _ ys _ hr (hb.later hW (Nat.le_refl _)) (by omega) (by omega)).mono ?_; rintro e w3 ⟨rfl, hb3⟩
          have hW3 : Below w.heap.size w w3 := bcall sW hb3 hW
          have r3 := hr.later hb3 (Nat.le_refl _)
          cases hd : decide (turnK xs k = ys)
          · have HS : Hid (anyT xs ys (k + 1) = false) := by simp only [Hid]; rw [anyT_succ, hT.out, hd]; rfl
            clear hd
            go_wp2_with fail
            refine (turnNuts_any _ _ _ _ _ r3).mono ?_; rintro e w2 ⟨A2, n2, c2, rfl, own2, hb2⟩
            have r2 : Rd w2 1 A2 n2 (strCells (turnK xs (k + 1))) := Rd.of_own own2
            have l2 : n2 ≤ 8 := by have h := r2.slen; have h3 := length_turnR (turnK xs k); have e : (turnK xs (k + 1)).length = (turnR (turnK xs k)).length := rfl; omega
            go_wp2
            go_roundw
            case rel => exact ⟨k + 1, A2, n2, c2, by omega, by go_num, rfl, HS, l2, r2, bcall hW3.size hb2 hW3⟩
            case measure => simp [intOf]; omega
          · have HS := Lib.hid (anyT_hit hlt hd)
            clear hd
            go_wp2
            go_ret2
            exact ⟨by rw [HS.out]; rfl, hW3⟩
        · have : k = 4 := by omega
          subst this
          have h := hT.out
          go_wp2
          go_ret2
          exact ⟨by rw [h]; rfl, hW⟩

end Go.Proofs.Ytobncknlipeinaa
