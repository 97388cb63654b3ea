/-
  Contracts: the size of a bar with nuts, and the nuts in a square, of the program.
-/
import Derived.Test.YtfbmnaepobhnkaaNutAt
namespace Go.Proofs.Ytfbmnaepobhnkaa
open Go.RowKit

theorem bar_field0 (a b : Int) (w : World) : (Instr.field 26 (bar2 a b) 0).run Try.prog w = .ok (.int .i64 a) w := by kernel_rfl
theorem bar_field1 (a b : Int) (w : World) : (Instr.field 26 (bar2 a b) 1).run Try.prog w = .ok (.int .i64 b) w := by kernel_rfl

set_option maxHeartbeats 400000 in
theorem barOf_any (A : Option Addr) (n c W : Nat) (ss : List ByteArray) (w : World) (hr : Rd w 1 A n (strCells ss)) (hb : NB ss W n) :
    Calls Try.prog 36 #[.slice A n c] w fun e w' => e = .returned (bar2 W n) ∧ Below w.heap.size w w' := by
  obtain ⟨b, o, rfl, hbl, s0, p0, hs0, hd0⟩ := hr.nut0 hb
  have hn1 := hb.h1
  have hn8 := hb.h8
  have p0' : ∀ ob, (w.alloc ob).cell? ⟨b, o, none⟩ = some (.string s0) := fun ob => (World.cell?_alloc_lt _ _ _ hbl).trans p0
  have hs := hs0.out
  subst hs
  go_enter Try.func36, Try.ntmps36
  go_wp2
  refine bodyPost_ret (v := bar2 s0.size n) (by simp [results, Try.results36, go_sem]) rfl ⟨rfl, ?_⟩
  (repeat (first | (with_reducible exact Below.refl _ _) | (with_reducible assumption) | (with_reducible refine Below.drew ?_) | ((with_reducible refine balloc ?_ _ ?_); · (first | (simp; done) | (simp; omega) | omega)) | ((with_reducible refine bset ?_ _ ?_); · (first | (simp; done) | (simp; omega) | omega)) | (with_reducible refine bdrewN _ ?_) | ((with_reducible refine bcall ?_ (by assumption) ?_); · (first | (simp; done) | (simp; omega) | omega))))

set_option maxHeartbeats 400000 in
theorem nutsAt_any (A : Option Addr) (n c W x y : Nat) (ss : List ByteArray) (w : World) (hr : Rd w 1 A n (strCells ss)) (hb : NB ss W n) (hx : x < W) (hy : y < n) :
    Calls Try.prog 55 #[.slice A n c, .int .i64 x, .int .i64 y] w fun e w' => e = .returned (.int .i64 (nutV ss y x : Nat)) ∧ w = w' := by
  obtain ⟨b, o, rfl, hbl, _, _, _, _⟩ := hr.nut0 hb
  obtain ⟨s, p, hz, hxs, c1, c2, hby, hv⟩ := hr.nut hb hy hx
  go_enter Try.func55, Try.ntmps55
  go_wp2
  go_ret
  exact ⟨ret_int hv.out, rfl⟩

end Go.Proofs.Ytfbmnaepobhnkaa
