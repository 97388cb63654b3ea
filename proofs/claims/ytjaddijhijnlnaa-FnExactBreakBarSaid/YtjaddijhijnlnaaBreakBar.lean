/-
  Contracts: BreakBar and TurnBar of the program and of the model. Conditions: none.
-/
import Derived.Test.YtjaddijhijnlnaaLines
namespace Go.Proofs.Ytjaddijhijnlnaa
open Go.RowKit

def bbV (x y : Int) (d : Bool) (t : Int) : Value :=
  if barB x y && canB x y d t then .tuple #[bar2 (part1 x y d t).1 (part1 x y d t).2, bar2 (part2 x y d t).1 (part2 x y d t).2, .bool true] else .tuple #[bar2 0 0, bar2 0 0, .bool false]

set_option maxHeartbeats 400000 in
theorem breakBar_any (x y : Int) (d : Bool) (t : Int) (w : World) :
    Calls Try.prog 24 #[bar2 x y, .bool d, .int .i64 t] w fun e w' => e = .returned (bbV x y d t) ∧ Below w.heap.size w w' := by
  cases hB : barB x y
  · have hV : bbV x y d t = .tuple #[bar2 0 0, bar2 0 0, .bool false] := by simp [bbV, hB]
    rw [hV]; clear hV
    go_enter Try.func24, Try.ntmps24
    go_wp2_with fail
    refine (isBar_any _ _ _).mono ?_; rintro e w1 ⟨rfl, hb1⟩; have s1 := hb1.size; obtain ⟨hc1, hf1⟩ := bcell hb1; have z1_0 : w.heap.size < w1.heap.size := (by have q := s1; first | omega | (simp at q; omega)); have z1_1 : w.heap.size + 1 < w1.heap.size := (by have q := s1; first | omega | (simp at q; omega)); have z1_2 : w.heap.size + 1 + 1 < w1.heap.size := (by have q := s1; first | omega | (simp at q; omega))
    go_wp2
    refine bodyPost_ret (v := .tuple #[bar2 0 0, bar2 0 0, .bool false]) (by simp [results, Try.results24, go_sem, *]) rfl ⟨rfl, ?_⟩
    (repeat (first | (with_reducible exact Below.refl _ _) | (with_reducible refine Below.drew ?_) | (with_reducible refine balloc ?_ _ ?_; · (first | (simp; done) | (simp; omega) | omega)) | (with_reducible refine bset ?_ _ ?_; · (first | (simp; done) | (simp; omega) | omega)) | (with_reducible refine bdrewN _ ?_) | (with_reducible refine bcall ?_ (by assumption) ?_; · (first | (simp; done) | (simp; omega) | omega))))
  · cases hC : canB x y d t
    · have hV : bbV x y d t = .tuple #[bar2 0 0, bar2 0 0, .bool false] := by simp [bbV, hC]
      rw [hV]; clear hV
      go_enter Try.func24, Try.ntmps24
      go_wp2_with fail
      refine (isBar_any _ _ _).mono ?_; rintro e w1 ⟨rfl, hb1⟩; have s1 := hb1.size; obtain ⟨hc1, hf1⟩ := bcell hb1; have z1_0 : w.heap.size < w1.heap.size := (by have q := s1; first | omega | (simp at q; omega)); have z1_1 : w.heap.size + 1 < w1.heap.size := (by have q := s1; first | omega | (simp at q; omega)); have z1_2 : w.heap.size + 1 + 1 < w1.heap.size := (by have q := s1; first | omega | (simp at q; omega))
      go_wp2_with fail
      refine (hasLine_any _ _ _ _ _ hB).mono ?_; rintro e w2 ⟨rfl, hb2⟩; have s2 := hb2.size; obtain ⟨hc2, hf2⟩ := bcell hb2; have z2_0 : w.heap.size < w2.heap.size := (by have q := s2; first | omega | (simp at q; omega)); have z2_1 : w.heap.size + 1 < w2.heap.size := (by have q := s2; first | omega | (simp at q; omega)); have z2_2 : w.heap.size + 1 + 1 < w2.heap.size := (by have q := s2; first | omega | (simp at q; omega))
      go_wp2
      refine bodyPost_ret (v := .tuple #[bar2 0 0, bar2 0 0, .bool false]) (by simp [results, Try.results24, go_sem, *]) rfl ⟨rfl, ?_⟩
      (repeat (first | (with_reducible exact Below.refl _ _) | (with_reducible refine Below.drew ?_) | (with_reducible refine balloc ?_ _ ?_; · (first | (simp; done) | (simp; omega) | omega)) | (with_reducible refine bset ?_ _ ?_; · (first | (simp; done) | (simp; omega) | omega)) | (with_reducible refine bdrewN _ ?_) | (with_reducible refine bcall ?_ (by assumption) ?_; · (first | (simp; done) | (simp; omega) | omega))))
    · have hV : bbV x y d t = .tuple #[bar2 (part1 x y d t).1 (part1 x y d t).2, bar2 (part2 x y d t).1 (part2 x y d t).2, .bool true] := by simp [bbV, hB, hC]
      rw [hV]; clear hV
      go_enter Try.func24, Try.ntmps24
      go_wp2_with fail
      refine (isBar_any _ _ _).mono ?_; rintro e w1 ⟨rfl, hb1⟩; have s1 := hb1.size; obtain ⟨hc1, hf1⟩ := bcell hb1; have z1_0 : w.heap.size < w1.heap.size := (by have q := s1; first | omega | (simp at q; omega)); have z1_1 : w.heap.size + 1 < w1.heap.size := (by have q := s1; first | omega | (simp at q; omega)); have z1_2 : w.heap.size + 1 + 1 < w1.heap.size := (by have q := s1; first | omega | (simp at q; omega))
      go_wp2_with fail
      refine (hasLine_any _ _ _ _ _ hB).mono ?_; rintro e w2 ⟨rfl, hb2⟩; have s2 := hb2.size; obtain ⟨hc2, hf2⟩ := bcell hb2; have z2_0 : w.heap.size < w2.heap.size := (by have q := s2; first | omega | (simp at q; omega)); have z2_1 : w.heap.size + 1 < w2.heap.size := (by have q := s2; first | omega | (simp at q; omega)); have z2_2 : w.heap.size + 1 + 1 < w2.heap.size := (by have q := s2; first | omega | (simp at q; omega))
      go_wp2_with fail
      refine (partsOf_any _ _ _ _ _ hB hC).mono ?_; rintro e w3 ⟨rfl, hb3⟩; have s3 := hb3.size; obtain ⟨hc3, hf3⟩ := bcell hb3; have z3_0 : w.heap.size < w3.heap.size := (by have q := s3; first | omega | (simp at q; omega)); have z3_1 : w.heap.size + 1 < w3.heap.size := (by have q := s3; first | omega | (simp at q; omega)); have z3_2 : w.heap.size + 1 + 1 < w3.heap.size := (by have q := s3; first | omega | (simp at q; omega))
      go_wp2
      go_region
      go_wp2
      refine bodyPost_ret (v := .tuple #[bar2 (part1 x y d t).1 (part1 x y d t).2, bar2 (part2 x y d t).1 (part2 x y d t).2, .bool true]) (by simp [results, Try.results24, go_sem, *]) rfl ⟨rfl, ?_⟩
      (repeat (first | (with_reducible exact Below.refl _ _) | (with_reducible refine Below.drew ?_) | (with_reducible refine balloc ?_ _ ?_; · (first | (simp; done) | (simp; omega) | omega)) | (with_reducible refine bset ?_ _ ?_; · (first | (simp; done) | (simp; omega) | omega)) | (with_reducible refine bdrewN _ ?_) | (with_reducible refine bcall ?_ (by assumption) ?_; · (first | (simp; done) | (simp; omega) | omega))))

set_option maxHeartbeats 400000 in
theorem sBreakBar_any (x y : Int) (d : Bool) (t : Int) (w : World) :
    Calls Try.prog 42 #[bar2 x y, .bool d, .int .i64 t] w fun e w' => e = .returned (bbV x y d t) ∧ Below w.heap.size w w' := by
  cases hB : barB x y
  · have hV : bbV x y d t = .tuple #[bar2 0 0, bar2 0 0, .bool false] := by simp [bbV, hB]
    rw [hV]; clear hV
    go_enter Try.func42, Try.ntmps42
    go_wp2_with fail
    refine (brGood_any _ _ _).mono ?_; rintro e w1 ⟨rfl, hb1⟩; have s1 := hb1.size; obtain ⟨hc1, hf1⟩ := bcell hb1; have z1_0 : w.heap.size < w1.heap.size := (by have q := s1; first | omega | (simp at q; omega)); have z1_1 : w.heap.size + 1 < w1.heap.size := (by have q := s1; first | omega | (simp at q; omega)); have z1_2 : w.heap.size + 1 + 1 < w1.heap.size := (by have q := s1; first | omega | (simp at q; omega))
    go_wp2
    refine bodyPost_ret (v := .tuple #[bar2 0 0, bar2 0 0, .bool false]) (by simp [results, Try.results42, go_sem, *]) rfl ⟨rfl, ?_⟩
    (repeat (first | (with_reducible exact Below.refl _ _) | (with_reducible refine Below.drew ?_) | (with_reducible refine balloc ?_ _ ?_; · (first | (simp; done) | (simp; omega) | omega)) | (with_reducible refine bset ?_ _ ?_; · (first | (simp; done) | (simp; omega) | omega)) | (with_reducible refine bdrewN _ ?_) | (with_reducible refine bcall ?_ (by assumption) ?_; · (first | (simp; done) | (simp; omega) | omega))))
  · cases hC : canB x y d t
    · have hV : bbV x y d t = .tuple #[bar2 0 0, bar2 0 0, .bool false] := by simp [bbV, hC]
      rw [hV]; clear hV
      go_enter Try.func42, Try.ntmps42
      go_wp2_with fail
      refine (brGood_any _ _ _).mono ?_; rintro e w1 ⟨rfl, hb1⟩; have s1 := hb1.size; obtain ⟨hc1, hf1⟩ := bcell hb1; have z1_0 : w.heap.size < w1.heap.size := (by have q := s1; first | omega | (simp at q; omega)); have z1_1 : w.heap.size + 1 < w1.heap.size := (by have q := s1; first | omega | (simp at q; omega)); have z1_2 : w.heap.size + 1 + 1 < w1.heap.size := (by have q := s1; first | omega | (simp at q; omega))
      go_wp2_with fail
      refine (brCan_any _ _ _ _ _ hB).mono ?_; rintro e w2 ⟨rfl, hb2⟩; have s2 := hb2.size; obtain ⟨hc2, hf2⟩ := bcell hb2; have z2_0 : w.heap.size < w2.heap.size := (by have q := s2; first | omega | (simp at q; omega)); have z2_1 : w.heap.size + 1 < w2.heap.size := (by have q := s2; first | omega | (simp at q; omega)); have z2_2 : w.heap.size + 1 + 1 < w2.heap.size := (by have q := s2; first | omega | (simp at q; omega))
      go_wp2
      refine bodyPost_ret (v := .tuple #[bar2 0 0, bar2 0 0, .bool false]) (by simp [results, Try.results42, go_sem, *]) rfl ⟨rfl, ?_⟩
      (repeat (first | (with_reducible exact Below.refl _ _) | (with_reducible refine Below.drew ?_) | (with_reducible refine balloc ?_ _ ?_; · (first | (simp; done) | (simp; omega) | omega)) | (with_reducible refine bset ?_ _ ?_; · (first | (simp; done) | (simp; omega) | omega)) | (with_reducible refine bdrewN _ ?_) | (with_reducible refine bcall ?_ (by assumption) ?_; · (first | (simp; done) | (simp; omega) | omega))))
    · have hV : bbV x y d t = .tuple #[bar2 (part1 x y d t).1 (part1 x y d t).2, bar2 (part2 x y d t).1 (part2 x y d t).2, .bool true] := by simp [bbV, hB, hC]
      rw [hV]; clear hV
      go_enter Try.func42, Try.ntmps42
      go_wp2_with fail
      refine (brGood_any _ _ _).mono ?_; rintro e w1 ⟨rfl, hb1⟩; have s1 := hb1.size; obtain ⟨hc1, hf1⟩ := bcell hb1; have z1_0 : w.heap.size < w1.heap.size := (by have q := s1; first | omega | (simp at q; omega)); have z1_1 : w.heap.size + 1 < w1.heap.size := (by have q := s1; first | omega | (simp at q; omega)); have z1_2 : w.heap.size + 1 + 1 < w1.heap.size := (by have q := s1; first | omega | (simp at q; omega))
      go_wp2_with fail
      refine (brCan_any _ _ _ _ _ hB).mono ?_; rintro e w2 ⟨rfl, hb2⟩; have s2 := hb2.size; obtain ⟨hc2, hf2⟩ := bcell hb2; have z2_0 : w.heap.size < w2.heap.size := (by have q := s2; first | omega | (simp at q; omega)); have z2_1 : w.heap.size + 1 < w2.heap.size := (by have q := s2; first | omega | (simp at q; omega)); have z2_2 : w.heap.size + 1 + 1 < w2.heap.size := (by have q := s2; first | omega | (simp at q; omega))
      go_wp2_with fail
      refine (brParts_any _ _ _ _ _ hB hC).mono ?_; rintro e w3 ⟨rfl, hb3⟩; have s3 := hb3.size; obtain ⟨hc3, hf3⟩ := bcell hb3; have z3_0 : w.heap.size < w3.heap.size := (by have q := s3; first | omega | (simp at q; omega)); have z3_1 : w.heap.size + 1 < w3.heap.size := (by have q := s3; first | omega | (simp at q; omega)); have z3_2 : w.heap.size + 1 + 1 < w3.heap.size := (by have q := s3; first | omega | (simp at q; omega))
      go_wp2
      go_region
      go_wp2
      refine bodyPost_ret (v := .tuple #[bar2 (part1 x y d t).1 (part1 x y d t).2, bar2 (part2 x y d t).1 (part2 x y d t).2, .bool true]) (by simp [results, Try.results42, go_sem, *]) rfl ⟨rfl, ?_⟩
      (repeat (first | (with_reducible exact Below.refl _ _) | (with_reducible refine Below.drew ?_) | (with_reducible refine balloc ?_ _ ?_; · (first | (simp; done) | (simp; omega) | omega)) | (with_reducible refine bset ?_ _ ?_; · (first | (simp; done) | (simp; omega) | omega)) | (with_reducible refine bdrewN _ ?_) | (with_reducible refine bcall ?_ (by assumption) ?_; · (first | (simp; done) | (simp; omega) | omega))))

end Go.Proofs.Ytjaddijhijnlnaa
