/-
  Contracts: rows turned to the right, of the program, and TurnTablet of the program and of the model.
-/
import Derived.Test.YtieiakljholkaabDoorTabG
import Derived.Test.YtieiakljholkaabDoorByte
import Derived.Test.YtieiakljholkaabDoorSunW
import Derived.Laws.IdiomStrings
import Derived.WalkSmall
import Derived.Outline
import Derived.Lib.OthersKept
namespace Go.Proofs.YtieiakljholkaabDoor
open Go.RowKit
set_option linter.unusedVariables false
set_option linter.unusedSimpArgs false

/-- a column from below: its first k signs -/
def colT (ss : List ByteArray) (n x k : Nat) : List UInt8 := (List.range k).map fun i => sgn (tq ss (n - 1 - i) x)
theorem colT_succ (ss : List ByteArray) (n x k : Nat) : colT ss n x (k + 1) = colT ss n x k ++ [sgn (tq ss (n - 1 - k) x)] := by simp [colT, List.range_succ]
theorem str_infoR : (Tryd.prog.info? 9).map (fun i => (i.zero, i.size, i.bytes)) = some (some (.string ByteArray.empty), 1, 16) := by kernel_rfl
theorem extract_oneT (s : ByteArray) (x : Nat) (h : x < s.size) : s.extract x (x + 1) = ⟨#[s[x]]⟩ := by
  apply ByteArray.ext
  apply Array.ext
  · have h' : x < s.data.size := h
    simp only [ByteArray.data_extract, Array.size_extract, List.size_toArray, List.length_cons, List.length_nil]
    omega
  · intro i h1 h2
    have : i = 0 := by simp at h2; omega
    subst this
    simp
    rfl

set_option maxRecDepth 100000 in
set_option maxHeartbeats 4000000 in
theorem turnRows_any (A : Option Addr) (n c W : Nat) (ss : List ByteArray) (w : World) (hr : Rd w 1 A n (strCells ss)) (hb : TB ss W n) :
    Calls Tryd.prog 56 #[.slice A n c] w fun e w' => ∃ A' c', e = .returned (.slice A' W c') ∧ w'.ownsRow w.heap.size 9 1 (.slice A' W c') W (strCells (tabF n W (turnG n (tq ss)))) ∧ Below w.heap.size w w' := by
  obtain ⟨i0, hi, hz0, hz1, hz2⟩ := info_parts str_infoR
  obtain ⟨j0, hj, hy0, hy1, hy2⟩ := info_parts byte_info
  have hn1 := hb.h1
  have hn10 := hb.h10
  have hW1 := hb.w1
  have hW10 := hb.w10
  obtain ⟨b, o, rfl, hbl, s0, p0, hs0⟩ := hr.tab0 hb
  have hs0' : s0.size = W := hs0.out
  go_enter Tryd.func56, Tryd.ntmps56
  go_wp2
  go_loopw [3, 11] (fun v i wr => ∃ (x : Nat) (A' : Option Addr) (c' : Nat), x ≤ W ∧ i = .int .i64 x ∧ v = .slice A' x c' ∧ wr.ownsRow w.heap.size 9 1 (.slice A' x c') x (strCells (tabF n x (turnG n (tq ss)))) ∧ Below w.heap.size w wr) (fun _ i _ => W - (intOf i).toNat)
  case atStart => exact ⟨0, none, 0, Nat.zero_le _, rfl, rfl, World.ownsRow_nil _ _ _ _, Below.refl _ _⟩
  case round =>
    obtain ⟨x, A', c', hx, rfl, rfl, hown, hB⟩ := hrel
    have sB := hB.size
    by_cases hlt : x < W
    · obtain ⟨wo, rfl⟩ : ∃ wo : World, wo = wr := ⟨_, rfl⟩
      go_wp2
      go_loopw [5, 6] (fun t i wq => ∃ (k : Nat) (A2 : Option Addr) (c2 : Nat), k ≤ n ∧ i = .int .i64 ((n : Int) - 1 - k) ∧ t = .slice A2 k c2 ∧ wq.ownsRow wo.heap.size 5 1 (.slice A2 k c2) k (byteCells (colT ss n x k)) ∧ Below wo.heap.size wo wq) (fun _ i _ => (intOf i + 1).toNat)
      case atStart => exact ⟨0, none, 0, Nat.zero_le _, by go_num, rfl, World.ownsRow_nil _ _ _ _, Below.refl _ _⟩
      case round =>
        obtain ⟨k, A2, c2, hk, rfl, rfl, own2, hB2⟩ := hrel
        have sB2 := hB2.size
        have hB3 : Below w.heap.size w wr := bcall sB hB2 hB
        by_cases hlk : k < n
        · obtain ⟨s, p, hz, hxs, _, _, _, _, hby⟩ := (hr.later hB3 (Nat.le_refl _)).sq hb (y := n - 1 - k) (x := x) (by omega) hlt
          have e1 : ((n : Int) - 1 - k).toNat = n - 1 - k := by omega
          have HB := Lib.hid hby.out
          have HC := Lib.hid (colT_succ ss n x k)
          go_wp2_with (at_builtin; refine wpList_append_own _ rfl (.tmp 21) (.tmp 28) 78 rfl wo.heap.size 5 j0 (.int .u8 0) 1 1 Tryd.underlying78 hj hy0 hy1 hy2 rfl (by decide) _ _ _ rfl (own2.alloc _) ⟨wr.heap.size, 0, none⟩ 1 1 [.int .u8 (s[x]).toNat] rfl rfl ?c1 ?c2 ?c3 ?c4 ?c5 ?_)
          case c1 => exact new1 _ _ _
          case c2 => first | rfl | (intro u hu; simp at hu; subst hu; rfl)
          case c3 => simp only [maxLen]; omega
          case c4 => omega
          case c5 => first | omega | (simp; omega)
          · intro v' w2 hown' hgrow _
            have hb2 := gb_new (Nat.le_refl _) (hB2.alloc sB2 (.cells #[.int .u8 (s[x]).toNat] 5)) hgrow (fun g hg => (own2.lt g hg).1)
            obtain ⟨A3, c3', rfl⟩ := own_slice hown'
            clear hgrow own2 hB2 hB3
            go_wp2
            go_roundw
            case rel => exact ⟨k + 1, A3, c3', by omega, by go_num, rfl, by rw [HC.out, byteCells_append, ← HB.out]; exact hown', hb2⟩
            case measure => simp [intOf]; omega
        · have hkn : k = n := by omega
          subst hkn
          have hst := run_string_own own2 (by omega)
          have own3 := own_later hown hB2 (Nat.le_refl _)
          have HT := Lib.hid (tabF_succ k x (turnG k (tq ss)))
          generalize hcv : (⟨(colT ss k x k).toArray⟩ : ByteArray) = cv at *
          have HCV : Hid (rowF k (turnG k (tq ss) x) = cv) := hcv
          clear hcv own2
          go_wp2_with (at_builtin; refine wpList_append_own _ rfl (.tmp 30) (.tmp 33) 22 rfl w.heap.size 9 i0 (.string ByteArray.empty) 1 16 Tryd.underlying22 hi hz0 hz1 hz2 rfl (by decide) _ _ _ rfl (own3.alloc _) ⟨wr.heap.size, 0, none⟩ 1 1 [.string cv] rfl rfl ?d1 ?d2 ?d3 ?d4 ?d5 ?_)
          case d1 => exact new1 _ _ _
          case d2 => first | rfl | exact str_oneCell [cv]
          case d3 => simp only [maxLen]; omega
          case d4 => omega
          case d5 => first | omega | (simp; omega)
          · intro v' w2 hown' hgrow _
            have hb2 := gb_new (Nat.le_refl _) (hB3.alloc (by omega) (.cells #[.string cv] 9)) hgrow (fun g hg => (own3.lt g hg).1)
            obtain ⟨A3, c3', rfl⟩ := own_slice hown'
            clear hgrow own3 hB2 hB3 hst
            go_wp2
            go_roundw
            case rel => exact ⟨x + 1, A3, c3', by omega, by go_num, rfl, by rw [HT.out, strCells_append, HCV.out]; exact hown', hb2⟩
            case measure => simp [intOf]; omega
    · go_wp2
      go_ret
      have : x = W := by omega
      subst this
      exact ⟨A', c', rfl, hown, hB⟩

/-- the tablet turned, or nothing -/
def turnTR (ss : List ByteArray) : List ByteArray := if tabB ss then tabF ss.length (tabW ss) (turnG ss.length (tq ss)) else []
theorem turnTR_yes {ss : List ByteArray} {W n : Nat} (h : TB ss W n) : turnTR ss = tabF n W (turnG n (tq ss)) := by
  unfold turnTR
  rw [h.good, if_pos rfl, h.len, h.headW]
theorem turnTR_no {ss : List ByteArray} (h : tabB ss = false) : turnTR ss = [] := by
  unfold turnTR
  rw [h]
  rfl
theorem length_turnTR (ss : List ByteArray) : (turnTR ss).length ≤ 10 := by
  unfold turnTR
  split
  · rename_i h
    rw [length_tabF]
    exact (TB.of h).w10
  · simp

set_option maxRecDepth 100000 in
set_option maxHeartbeats 1000000 in
theorem turnTablet_any (A : Option Addr) (n c : Nat) (ss : List ByteArray) (w : World) (hr : Rd w 1 A n (strCells ss)) (hsz : ∀ s ∈ ss, s.size ≤ 9223372036854775807) :
    Calls Tryd.prog 27 #[.slice A n c] w fun e w' => ∃ A' n' c', e = .returned (.tuple #[.slice A' n' c', .bool (tabB ss)]) ∧ w'.ownsRow w.heap.size 9 1 (.slice A' n' c') n' (strCells (turnTR ss)) ∧ Below w.heap.size w w' := by
  have HG := Lib.hid (isTablet_any A n c ss w hr hsz)
  clear hsz
  cases hB : tabB ss
  · rw [turnTR_no hB]
    rw [hB] at HG
    go_enter Tryd.func27, Tryd.ntmps27
    go_wp2_with fail
    refine HG.out.mono ?_; rintro e w1 ⟨rfl, hb1⟩
    go_wp2
    go_ret2
    exact ⟨none, 0, 0, rfl, World.ownsRow_nil _ _ _ _, hb1⟩
  · have hb := TB.of hB
    rw [hr.slen] at hb
    rw [turnTR_yes hb]
    rw [hB] at HG
    go_enter Tryd.func27, Tryd.ntmps27
    go_wp2_with fail
    refine HG.out.mono ?_; rintro e w1 ⟨rfl, hb1⟩
    have s1 := hb1.size
    go_wp2_with fail
    refine (turnRows_any _ _ _ _ ss _ (hr.later hb1 (Nat.le_refl _)) hb).mono ?_; rintro e w2 ⟨A2, c2, rfl, own2, hb2⟩
    go_wp2
    go_ret2
    exact ⟨A2, _, c2, rfl, own_base own2 s1, hb1.trans (hb2.mono s1)⟩

set_option maxRecDepth 100000 in
set_option maxHeartbeats 4000000 in
theorem sTurnTablet_yes (A : Option Addr) (n c W : Nat) (ss : List ByteArray) (w : World) (hr : Rd w 1 A n (strCells ss)) (hsz : ∀ s ∈ ss, s.size ≤ 9223372036854775807) (hb : TB ss W n) :
    Calls Tryd.prog 26 #[.slice A n c] w fun e w' => ∃ A' c', e = .returned (.tuple #[.slice A' W c', .bool true]) ∧ w'.ownsRow w.heap.size 9 1 (.slice A' W c') W (strCells (tabF n W (turnG n (tq ss)))) ∧ Below w.heap.size w w' := by
  have HG := Lib.hid (mlGood_any A n c ss w hr hsz)
  clear hsz
  rw [hb.good] at HG
  obtain ⟨i0, hi, hz0, hz1, hz2⟩ := info_parts str_infoR
  have hn1 := hb.h1
  have hn10 := hb.h10
  have hW1 := hb.w1
  have hW10 := hb.w10
  obtain ⟨b, o, rfl, hbl, s0, p0, hs0⟩ := hr.tab0 hb
  have hs0' : s0.size = W := hs0.out
  go_enter Tryd.func26, Tryd.ntmps26
  go_wp2_with fail
  refine HG.out.mono ?_; rintro e w1 ⟨rfl, rfl⟩
  go_wp2
  go_loopw [4, 5] (fun v i wr => ∃ (x : Nat) (A' : Option Addr) (c' : Nat), x ≤ W ∧ i = .int .i64 x ∧ v = .slice A' x c' ∧ wr.ownsRow w.heap.size 9 1 (.slice A' x c') x (strCells (tabF n x (turnG n (tq ss)))) ∧ Below w.heap.size w wr) (fun _ i _ => W - (intOf i).toNat)
  case atStart => exact ⟨0, none, 0, Nat.zero_le _, rfl, rfl, World.ownsRow_nil _ _ _ _, Below.refl _ _⟩
  case round =>
    obtain ⟨x, A', c', hx, rfl, rfl, hown, hB⟩ := hrel
    have sB := hB.size
    have p0' : wr.cell? ⟨b, o, none⟩ = some (.string s0) := (hB.cell (p := ⟨b, o, none⟩) hbl).trans p0
    by_cases hlt : x < W
    · have hrd := hr.later hB (Nat.le_refl _)
      go_wp2
      go_loop [6, 7] (fun t i => ∃ k : Nat, k ≤ n ∧ i = .int .i64 ((n : Int) - 1 - k) ∧ t = .string (rowF k (turnG n (tq ss) x))) (fun _ i => (intOf i + 1).toNat)
      case atStart => exact ⟨0, Nat.zero_le _, by go_num, rfl⟩
      case round =>
        obtain ⟨k, hk, rfl, rfl⟩ := hrel
        have hcs := size_rowF k (turnG n (tq ss) x)
        by_cases hlk : k < n
        · obtain ⟨s, p, hz, hxs2, _, _, _, _, hby⟩ := hrd.sq hb (y := n - 1 - k) (x := x) (by omega) hlt
          have hex := extract_oneT s x hxs2
          have HC := Lib.hid (rowF_succ k (turnG n (tq ss) x))
          have HX : Hid (s.extract x (x + 1) = ⟨#[sgn (turnG n (tq ss) x k)]⟩) := by
            have := hby.out
            simp only [Hid]; rw [hex, this]; rfl
          have hes : (s.extract x (x + 1)).size ≤ 1 := by rw [hex]; exact Nat.le_refl _
          clear hex
          generalize hso : s.extract x (x + 1) = so at *
          generalize rowF k (turnG n (tq ss) x) = rw0 at *
          have e1 : ((n : Int) - 1 - k).toNat = n - 1 - k := by omega
          go_wp2
          go_round
          case rel => exact ⟨k + 1, by omega, by go_num, by rw [HC.out, HX.out]⟩
          case measure => simp [intOf]; omega
        · have hkn : k = n := by omega
          subst hkn
          have HT := Lib.hid (tabF_succ k x (turnG k (tq ss)))
          generalize hcv : rowF k (turnG k (tq ss) x) = cv at *
          clear hcv
          go_wp2_with (at_builtin; refine wpList_append_own _ rfl (.tmp 36) (.tmp 38) 22 rfl w.heap.size 9 i0 (.string ByteArray.empty) 1 16 Tryd.underlying22 hi hz0 hz1 hz2 rfl (by decide) _ _ _ rfl (hown.alloc _) ⟨wr.heap.size, 0, none⟩ 1 1 [.string cv] rfl rfl ?d1 ?d2 ?d3 ?d4 ?d5 ?_)
          case d2 => first | rfl | exact str_oneCell [cv]
          case d3 => simp only [maxLen]; omega
          case d4 => omega
          case d5 => first | omega | (simp; omega)
          · intro v' w2 hown' hgrow _
            have hb2 := gb_new (Nat.le_refl _) (hB.alloc sB (.cells #[.string cv] 9)) hgrow (fun g hg => (hown.lt g hg).1)
            obtain ⟨A3, c3', rfl⟩ := own_slice hown'
            clear hgrow hown
            go_wp2
            go_roundw
            case rel => exact ⟨x + 1, A3, c3', by omega, by go_num, rfl, by rw [HT.out, strCells_append]; exact hown', hb2⟩
            case measure => simp [intOf]; omega
    · go_wp2
      go_ret2
      have : x = W := by omega
      subst this
      exact ⟨A', c', rfl, hown, hB⟩

set_option maxHeartbeats 1000000 in
theorem sTurnTablet_any (A : Option Addr) (n c : Nat) (ss : List ByteArray) (w : World) (hr : Rd w 1 A n (strCells ss)) (hsz : ∀ s ∈ ss, s.size ≤ 9223372036854775807) :
    Calls Tryd.prog 26 #[.slice A n c] w fun e w' => ∃ A' n' c', e = .returned (.tuple #[.slice A' n' c', .bool (tabB ss)]) ∧ w'.ownsRow w.heap.size 9 1 (.slice A' n' c') n' (strCells (turnTR ss)) ∧ Below w.heap.size w w' := by
  cases hB : tabB ss
  · rw [turnTR_no hB]
    have HG := Lib.hid (mlGood_any A n c ss w hr hsz)
    clear hsz
    rw [hB] at HG
    go_enter Tryd.func26, Tryd.ntmps26
    go_wp2_with fail
    refine HG.out.mono ?_; rintro e w1 ⟨rfl, rfl⟩
    go_wp2
    go_ret2
    exact ⟨none, 0, 0, rfl, World.ownsRow_nil _ _ _ _, Below.refl _ _⟩
  · have hb := TB.of hB
    rw [hr.slen] at hb
    rw [turnTR_yes hb]
    refine (sTurnTablet_yes A n c _ ss w hr hsz hb).mono ?_
    rintro e w' ⟨A', c', he, ho, hb⟩
    exact ⟨A', _, c', he, ho, hb⟩

end Go.Proofs.YtieiakljholkaabDoor
