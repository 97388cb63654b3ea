/-
  Contracts: what a move requires of its parts: why it cannot be made, raised; that it can.
-/
import Derived.Test.YtcocdidkkcjbgaaDoorWords
namespace Go.Proofs.YtcocdidkkcjbgaaDoor
open Go.RowKit
set_option linter.unusedSimpArgs false
set_option linter.unusedVariables false

/-- the rules of a strip's moves -/
abbrev rul (l : Int) (u : Bool) : Value := .agg #[.int .i64 l, .bool u]
def stB (long t least : Int) (u : Bool) : Bool := decide (least ≤ t ∧ t ≤ long - least) && !(u && decide (t + t = long))

/-- the error of like parts lies where the program has laid it -/
def LikeAt (w : World) (a0 : Addr) : Prop := w.cell? ⟨0, 0, none⟩ = some (.iface 144 (.pointer (some a0)))
theorem LikeAt.lt {w : World} {a0 : Addr} (h : LikeAt w a0) : 0 < w.heap.size := by
  rcases Nat.lt_or_ge 0 w.heap.size with h1 | h1
  · exact h1
  · unfold LikeAt at h; simp [World.cell?, Array.getElem?_eq_none h1] at h
theorem LikeAt.later {w w' : World} {a0 : Addr} {B : Nat} (h : LikeAt w a0) (hb : Below B w w') (hB : 2 ≤ B) : LikeAt w' a0 :=
  (hb.cell (p := ⟨0, 0, none⟩) (Nat.lt_of_lt_of_le (by decide) hB)).trans h

set_option maxRecDepth 100000 in
set_option maxHeartbeats 1000000 in
theorem req_short (long t l : Int) (u : Bool) (w : World) (h1 : 1 ≤ long) (h2 : long ≤ 60) (h3 : 1 ≤ l) (h4 : l ≤ 60) (h : t < l ∨ long - l < t) :
    Calls Tryd.prog 61 #[.int .i64 long, .int .i64 t, rul l u] w fun e w' => e = .panicked [{ v := .iface 82 (.agg #[.int .i64 l]), recovered := false }] ∧ Below w.heap.size w w' := by
  by_cases ha : t < l
  · have hd : decide (t < l) = true := decide_eq_true ha
    go_enter Tryd.func61, Tryd.ntmps61
    go_wp2
    exact ⟨rfl, rfl, by (repeat (first | (with_reducible exact Below.refl _ _) | (with_reducible assumption) | (with_reducible refine Below.drew ?_) | ((with_reducible refine balloc ?_ _ ?_); · (first | (simp; done) | (simp; omega) | omega)) | ((with_reducible refine bset ?_ _ ?_); · (first | (simp; done) | (simp; omega) | omega)) | (with_reducible refine bdrewN _ ?_) | ((with_reducible refine bcall ?_ (by assumption) ?_); · (first | (simp; done) | (simp; omega) | omega))))⟩
  · have hd : decide (t < l) = false := decide_eq_false ha
    have he : decide (long - l < t) = true := decide_eq_true (by omega)
    clear h
    go_enter Tryd.func61, Tryd.ntmps61
    go_wp2
    exact ⟨rfl, rfl, by (repeat (first | (with_reducible exact Below.refl _ _) | (with_reducible assumption) | (with_reducible refine Below.drew ?_) | ((with_reducible refine balloc ?_ _ ?_); · (first | (simp; done) | (simp; omega) | omega)) | ((with_reducible refine bset ?_ _ ?_); · (first | (simp; done) | (simp; omega) | omega)) | (with_reducible refine bdrewN _ ?_) | ((with_reducible refine bcall ?_ (by assumption) ?_); · (first | (simp; done) | (simp; omega) | omega))))⟩

set_option maxRecDepth 100000 in
set_option maxHeartbeats 1000000 in
theorem req_like (long t l : Int) (a0 : Addr) (w : World) (h1 : 1 ≤ long) (h2 : long ≤ 60) (h3 : 1 ≤ l) (h4 : l ≤ 60) (h5 : l ≤ t) (h6 : t ≤ long - l) (h7 : t + t = long) (hL : LikeAt w a0) :
    Calls Tryd.prog 61 #[.int .i64 long, .int .i64 t, rul l true] w fun e w' => e = .panicked [{ v := .iface 144 (.pointer (some a0)), recovered := false }] ∧ Below w.heap.size w w' := by
  have hlt := hL.lt
  have hd : decide (t < l) = false := decide_eq_false (by omega)
  have he : decide (long - l < t) = false := decide_eq_false (by omega)
  have hq : (t == long - t) = true := by simp; omega
  have hc : (w.alloc (.cells #[.int .i64 l, .bool true] 61)).cell? ⟨0, 0, none⟩ = some (.iface 144 (.pointer (some a0))) := (World.cell?_alloc_lt _ _ ⟨0, 0, none⟩ hlt).trans hL
  clear h7
  go_enter Tryd.func61, Tryd.ntmps61
  go_wp2
  exact ⟨rfl, rfl, by (repeat (first | (with_reducible exact Below.refl _ _) | (with_reducible assumption) | (with_reducible refine Below.drew ?_) | ((with_reducible refine balloc ?_ _ ?_); · (first | (simp; done) | (simp; omega) | omega)) | ((with_reducible refine bset ?_ _ ?_); · (first | (simp; done) | (simp; omega) | omega)) | (with_reducible refine bdrewN _ ?_) | ((with_reducible refine bcall ?_ (by assumption) ?_); · (first | (simp; done) | (simp; omega) | omega))))⟩

set_option maxRecDepth 100000 in
set_option maxHeartbeats 1000000 in
theorem req_ok (long t l : Int) (u : Bool) (w : World) (h1 : 1 ≤ long) (h2 : long ≤ 60) (h3 : 1 ≤ l) (h4 : l ≤ 60) (h5 : l ≤ t) (h6 : t ≤ long - l) (h7 : u = true → t + t ≠ long) :
    Calls Tryd.prog 61 #[.int .i64 long, .int .i64 t, rul l u] w fun e w' => e = .returned (.tuple #[]) ∧ Below w.heap.size w w' := by
  have hd : decide (t < l) = false := decide_eq_false (by omega)
  have he : decide (long - l < t) = false := decide_eq_false (by omega)
  cases u
  · clear h7
    go_enter Tryd.func61, Tryd.ntmps61
    go_wp2
    exact bodyPost_end (v := .tuple #[]) (by simp [results, Tryd.results61, go_sem]) rfl ⟨rfl, by (repeat (first | (with_reducible exact Below.refl _ _) | (with_reducible assumption) | (with_reducible refine Below.drew ?_) | ((with_reducible refine balloc ?_ _ ?_); · (first | (simp; done) | (simp; omega) | omega)) | ((with_reducible refine bset ?_ _ ?_); · (first | (simp; done) | (simp; omega) | omega)) | (with_reducible refine bdrewN _ ?_) | ((with_reducible refine bcall ?_ (by assumption) ?_); · (first | (simp; done) | (simp; omega) | omega))))⟩
  · have hq : (t == long - t) = false := by have := h7 rfl; simp; omega
    clear h7
    go_enter Tryd.func61, Tryd.ntmps61
    go_wp2
    exact bodyPost_end (v := .tuple #[]) (by simp [results, Tryd.results61, go_sem]) rfl ⟨rfl, by (repeat (first | (with_reducible exact Below.refl _ _) | (with_reducible assumption) | (with_reducible refine Below.drew ?_) | ((with_reducible refine balloc ?_ _ ?_); · (first | (simp; done) | (simp; omega) | omega)) | ((with_reducible refine bset ?_ _ ?_); · (first | (simp; done) | (simp; omega) | omega)) | (with_reducible refine bdrewN _ ?_) | ((with_reducible refine bcall ?_ (by assumption) ?_); · (first | (simp; done) | (simp; omega) | omega))))⟩
end Go.Proofs.YtcocdidkkcjbgaaDoor
