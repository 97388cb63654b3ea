/-
  Contracts: the nuts of a part, of the model; the sum of a slice of numbers, of the program.
-/
import Derived.Test.YtfbmnaepobhnkaaNutAt
namespace Go.Proofs.Ytfbmnaepobhnkaa
open Go.RowKit

theorem rect_succ (ss : List ByteArray) (x y w h : Nat) : rect ss x y w (h + 1) = rect ss x y w h + rs (nutV ss (y + h)) x w := rfl

set_option maxRecDepth 100000 in
set_option maxHeartbeats 2000000 in
theorem ntSum_any (A : Option Addr) (n c W : Nat) (ss : List ByteArray) (x y tx ty : Int) (x' y' wd ht : Nat) (w : World) (hr : Rd w 1 A n (strCells ss)) (hb : NB ss W n) (hx : x = x') (hy : y = y') (htx : tx = (x' : Int) + wd) (hty : ty = (y' : Int) + ht) (hw : x' + wd ≤ W) (hh : y' + ht ≤ n) :
    Calls Try.prog 53 #[.slice A n c, .int .i64 x, .int .i64 y, .int .i64 tx, .int .i64 ty] w fun e w' => e = .returned (.int .i64 (rect ss x' y' wd ht : Nat)) ∧ w = w' := by
  subst hx hy htx hty
  obtain ⟨b, o, rfl, hbl, _, _, _, _⟩ := hr.nut0 hb
  have hn8 := hb.h8
  have hW8 := hb.w8
  go_enter Try.func53, Try.ntmps53
  go_wp2
  go_loop [11, 12] (fun s j => ∃ k : Nat, k ≤ ht ∧ j = .int .i64 ((y' : Int) + k) ∧ s = .int .i64 (rect ss x' y' wd k : Nat)) (fun _ j => (y' : Nat) + ht - (intOf j).toNat)
  case atStart => exact ⟨0, Nat.zero_le _, by go_num, rfl⟩
  case round =>
    obtain ⟨k, hk, rfl, rfl⟩ := hrel
    have b1 := rect_576 hb hw (show y' + k ≤ n by omega)
    by_cases hlt : k < ht
    · have HR := Lib.hid (rect_succ ss x' y' wd k)
      go_wp2
      go_loop [11, 13] (fun s i => ∃ m : Nat, m ≤ wd ∧ i = .int .i64 ((x' : Int) + m) ∧ s = .int .i64 (rect ss x' y' wd k + rs (nutV ss (y' + k)) x' m : Nat)) (fun _ i => (x' : Nat) + wd - (intOf i).toNat)
      case atStart => exact ⟨0, Nat.zero_le _, by go_num, by simp [rs]⟩
      case round =>
        obtain ⟨m, hm, rfl, rfl⟩ := hrel
        have b2 : rs (nutV ss (y' + k)) x' m ≤ 9 * m := rs_le m fun i hi => hb.val_le (by omega) (by omega)
        by_cases hlm : m < wd
        · obtain ⟨s, p, hz, hxs, c1, c2, hby, hval⟩ := hr.nut hb (y := y' + k) (x := x' + m) (by omega) (by omega)
          have HS : Hid (rs (nutV ss (y' + k)) x' (m + 1) = rs (nutV ss (y' + k)) x' m + nutV ss (y' + k) (x' + m)) := rfl
          go_wp2
          go_round
          case rel => exact ⟨m + 1, by omega, by go_num, by have h1 := HS.out; have h2 := hval.out; congr 1; omega⟩
          case measure => simp [intOf]; omega
        · have : m = wd := by omega
          subst this
          go_wp2
          go_round
          case rel => exact ⟨k + 1, by omega, by go_num, by rw [HR.out]⟩
          case measure => simp [intOf]; omega
    · go_wp2
      go_ret
      have : k = ht := by omega
      subst this
      exact ⟨rfl, rfl⟩


end Go.Proofs.Ytfbmnaepobhnkaa
