/-
  Contract: TurnNuts of the program.
-/
import Derived.Test.YtobncknlipeinaaTurnN
namespace Go.Proofs.Ytobncknlipeinaa
open Go.RowKit

def byteCells (l : List UInt8) : List Value := l.map fun b => .int .u8 b.toNat
theorem length_byteCells (l : List UInt8) : (byteCells l).length = l.length := by simp [byteCells]
theorem byteCells_append (l r : List UInt8) : byteCells (l ++ r) = byteCells l ++ byteCells r := by simp [byteCells]
theorem byte_info : (Try.prog.info? 5).map (fun i => (i.zero, i.size, i.bytes)) = some (some (.int .u8 0), 1, 1) := by kernel_rfl
/-- a text out of a row of bytes that the call owns -/
theorem run_string_own {w : World} {B n c : Nat} {A : Option Addr} {l : List UInt8} (ho : w.ownsRow B 5 1 (.slice A n c) n (byteCells l)) (hn : 0 < n) :
    (convert 68 9 (.slice A n c)).run Try.prog w = .ok (.string ⟨l.toArray⟩) w := by
  obtain ⟨g, rfl, _, _⟩ := own_at ho hn
  have hl : l.length = n := by have := ho.1; rw [length_byteCells] at this; omega
  subst hl
  refine run_convert_bytes_back (P := Try.prog) w 68 9 5 ⟨g, 0, none⟩ c l Try.underlying68 Try.underlying5 Try.underlying9 (fun j hj => ?_)
  have q := ho.cellAt j (by omega)
  have e : (⟨g, 0, none⟩ : Addr).add j = ⟨g, j, none⟩ := by unfold Addr.add; split <;> simp_all
  rw [e, q]
  simp [byteCells, hj]

set_option maxRecDepth 100000 in
set_option maxHeartbeats 4000000 in
theorem turnRowsN_any (A : Option Addr) (n c W : Nat) (ss : List ByteArray) (w : World) (hr : Rd w 1 A n (strCells ss)) (hb : NB ss W n) :
    Calls Try.prog 37 #[.slice A n c] w fun e w' => ∃ A' n' c', e = .returned (.slice A' n' c') ∧ w'.ownsRow w.heap.size 9 1 (.slice A' n' c') n' (strCells (turnL ss n W)) ∧ Below w.heap.size w w' := by
  obtain ⟨i0, hi, hz0, hz1, hz2⟩ := info_parts str_info
  obtain ⟨j0, hj, hy0, hy1, hy2⟩ := info_parts byte_info
  obtain ⟨b, o, rfl, hbl, s0, p0, hs0, hd0⟩ := hr.nut0 hb
  have hn1 := hb.h1
  have hn8 := hb.h8
  have hW1 := hb.w1
  have hW8 := hb.w8
  have hs0' : s0.size = W := hs0.out
  go_enter Try.func37, Try.ntmps37
  go_wp2
  go_loopw [3, 11] (fun v i wr => ∃ (x : Nat) (A' : Option Addr) (c' : Nat), x ≤ W ∧ i = .int .i64 x ∧ v = .slice A' x c' ∧ wr.ownsRow w.heap.size 9 1 (.slice A' x c') x (strCells (turnL ss n x)) ∧ Below w.heap.size w wr) (fun _ i _ => W - (intOf i).toNat)
  case atStart => exact ⟨0, none, 0, Nat.zero_le _, rfl, rfl, World.ownsRow_nil _ _ _ _, Below.refl _ _⟩
  case round =>
    obtain ⟨x, A', c', hx, rfl, rfl, hown, hB⟩ := hrel
    have sB := hB.size
    by_cases hlt : x < W
    · obtain ⟨wo, rfl⟩ : ∃ wo : World, wo = wr := ⟨_, rfl⟩
      go_wp2
      go_loopw [5, 6] (fun t i wq => ∃ (k : Nat) (A2 : Option Addr) (c2 : Nat), k ≤ n ∧ i = .int .i64 ((n : Int) - 1 - k) ∧ t = .slice A2 k c2 ∧ wq.ownsRow wo.heap.size 5 1 (.slice A2 k c2) k (byteCells (colL ss n x k)) ∧ Below wo.heap.size wo wq) (fun _ i _ => (intOf i + 1).toNat)
      case atStart => exact ⟨0, none, 0, Nat.zero_le _, by go_num, rfl, World.ownsRow_nil _ _ _ _, Below.refl _ _⟩
      case round =>
        obtain ⟨k, A2, c2, hk, rfl, rfl, own2, hB2⟩ := hrel
        have sB2 := hB2.size
        have hB3 : Below w.heap.size w wr := bcall sB hB2 hB
        by_cases hlk : k < n
        · obtain ⟨s, p, hz, hxs, c1, c2', hby, _⟩ := (hr.later hB3 (Nat.le_refl _)).nut hb (y := n - 1 - k) (x := x) (by omega) hlt
          have e1 : ((n : Int) - 1 - k).toNat = n - 1 - k := by omega
          have HB := Lib.hid hby.out
          have HC := Lib.hid (colL_succ ss n x k)
          go_wp2_with (at_builtin; refine wpList_append_own _ rfl (.tmp 21) (.tmp 28) 68 rfl wo.heap.size 5 j0 (.int .u8 0) 1 1 Try.underlying68 hj hy0 hy1 hy2 rfl (by decide) _ _ _ rfl (own2.alloc _) ⟨wr.heap.size, 0, none⟩ 1 1 [.int .u8 (s[x]).toNat] rfl rfl ?c1 ?c2 ?c3 ?c4 ?c5 ?_)
          case c1 => exact new1 _ _ _
          case c2 => first | rfl | (intro u hu; simp at hu; subst hu; rfl)
          case c3 => simp only [maxLen]; omega
          case c4 => omega
          case c5 => first | omega | (simp; omega)
          · intro v' w2 hown' hgrow _
            have hb2 := gb_new (Nat.le_refl _) (hB2.alloc sB2 (.cells #[.int .u8 (s[x]).toNat] 5)) hgrow (fun g hg => (own2.lt g hg).1)
            obtain ⟨A3, c3', rfl⟩ := own_slice hown'
            clear hgrow own2 hB2 hB3
            go_wp2
            go_roundw
            case rel => exact ⟨k + 1, A3, c3', by omega, by go_num, rfl, by rw [HC.out, byteCells_append, ← HB.out]; exact hown', hb2⟩
            case measure => simp [intOf]; omega
        · have hkn : k = n := by omega
          subst hkn
          have hst := run_string_own own2 (by omega)
          have own3 := own_later hown hB2 (Nat.le_refl _)
          generalize hcv : (⟨(colL ss k x k).toArray⟩ : ByteArray) = cv at *
          have HCV : Hid (colS ss k x k = cv) := hcv
          clear hcv own2
          go_wp2_with (at_builtin; refine wpList_append_own _ rfl (.tmp 30) (.tmp 33) 34 rfl w.heap.size 9 i0 (.string ByteArray.empty) 1 16 Try.underlying34 hi hz0 hz1 hz2 rfl (by decide) _ _ _ rfl (own3.alloc _) ⟨wr.heap.size, 0, none⟩ 1 1 [.string cv] rfl rfl ?d1 ?d2 ?d3 ?d4 ?d5 ?_)
          case d1 => exact new1 _ _ _
          case d2 => first | rfl | exact str_oneCell [cv]
          case d3 => simp only [maxLen]; omega
          case d4 => omega
          case d5 => first | omega | (simp; omega)
          · intro v' w2 hown' hgrow _
            have hb2 := gb_new (Nat.le_refl _) (hB3.alloc (by omega) (.cells #[.string cv] 9)) hgrow (fun g hg => (own3.lt g hg).1)
            obtain ⟨A3, c3', rfl⟩ := own_slice hown'
            clear hgrow own3 hB2 hB3 hst
            go_wp2
            go_roundw
            case rel => exact ⟨x + 1, A3, c3', by omega, by go_num, rfl, by rw [turnL_succ, strCells_append, HCV.out]; exact hown', hb2⟩
            case measure => simp [intOf]; omega
    · go_wp2
      go_ret
      have : x = W := by omega
      subst this
      exact ⟨A', x, c', rfl, hown, hB⟩

set_option maxRecDepth 100000 in
set_option maxHeartbeats 1000000 in
theorem turnNuts_any (A : Option Addr) (n c : Nat) (ss : List ByteArray) (w : World) (hr : Rd w 1 A n (strCells ss)) :
    Calls Try.prog 18 #[.slice A n c] w fun e w' => ∃ A' n' c', e = .returned (.tuple #[.slice A' n' c', .bool (nutsB ss)]) ∧ w'.ownsRow w.heap.size 9 1 (.slice A' n' c') n' (strCells (turnR ss)) ∧ Below w.heap.size w w' := by
  cases hB : nutsB ss
  · rw [turnR_no hB]
    go_enter Try.func18, Try.ntmps18
    go_wp2_with fail
    refine (areNuts_any _ _ _ _ _ hr).mono ?_; rintro e w1 ⟨rfl, rfl⟩
    go_wp2
    go_ret2
    exact ⟨none, 0, 0, rfl, World.ownsRow_nil _ _ _ _, Below.refl _ _⟩
  · have hb := NB.of hB
    rw [hr.slen] at hb
    rw [turnR_yes hb]
    go_enter Try.func18, Try.ntmps18
    go_wp2_with fail
    refine (areNuts_any _ _ _ _ _ hr).mono ?_; rintro e w1 ⟨rfl, rfl⟩
    rw [hB]
    go_wp2_with fail
    refine (turnRowsN_any A n c _ ss _ hr hb).mono ?_; rintro e w2 ⟨A2, n2, c2, rfl, own2, hb2⟩
    go_wp2
    go_ret2
    exact ⟨A2, n2, c2, rfl, own2, hb2⟩

end Go.Proofs.Ytobncknlipeinaa
