/-
  Contracts: TurnBar of the program and of the model. Conditions: none.
-/
import Derived.Test.YtjaddijhijnlnabBase
namespace Go.Proofs.Ytjaddijhijnlnab
open Go.RowKit

def tbV (x y : Int) : Value := if barB x y then .tuple #[bar2 y x, .bool true] else .tuple #[bar2 0 0, .bool false]

set_option maxHeartbeats 400000 in
theorem turnBar_any (x y : Int) (w : World) :
    Calls Try.prog 30 #[bar2 x y] w fun e w' => e = .returned (tbV x y) ∧ Below w.heap.size w w' := by
  cases hB : barB x y
  · have hV : tbV x y = .tuple #[bar2 0 0, .bool false] := by simp [tbV, hB]
    rw [hV]; clear hV
    go_enter Try.func30, Try.ntmps30
    go_wp2_with fail
    refine (isBar_any _ _ _).mono ?_; rintro e w1 ⟨rfl, hb1⟩; have s1 := hb1.size; obtain ⟨hc1, hf1⟩ := bcell hb1; have z1_w0 : w.heap.size < w1.heap.size := (by have q := s1; first | omega | (simp at q; omega)); have z1_w1 : w.heap.size + 1 < w1.heap.size := (by have q := s1; first | omega | (simp at q; omega))
    go_wp2
    refine bodyPost_ret (v := .tuple #[bar2 0 0, .bool false]) (by simp [results, Try.results30, go_sem, *]) rfl ⟨rfl, ?_⟩
    (repeat (first | (with_reducible exact Below.refl _ _) | (with_reducible refine Below.drew ?_) | (with_reducible refine balloc ?_ _ ?_; · (first | (simp; done) | (simp; omega) | omega)) | (with_reducible refine bset ?_ _ ?_; · (first | (simp; done) | (simp; omega) | omega)) | (with_reducible refine bdrewN _ ?_) | (with_reducible refine bcall ?_ (by assumption) ?_; · (first | (simp; done) | (simp; omega) | omega))))
  · have hV : tbV x y = .tuple #[bar2 y x, .bool true] := by simp [tbV, hB]
    rw [hV]; clear hV
    go_enter Try.func30, Try.ntmps30
    go_wp2_with fail
    refine (isBar_any _ _ _).mono ?_; rintro e w1 ⟨rfl, hb1⟩; have s1 := hb1.size; obtain ⟨hc1, hf1⟩ := bcell hb1; have z1_w0 : w.heap.size < w1.heap.size := (by have q := s1; first | omega | (simp at q; omega)); have z1_w1 : w.heap.size + 1 < w1.heap.size := (by have q := s1; first | omega | (simp at q; omega))
    go_wp2
    refine bodyPost_ret (v := .tuple #[bar2 y x, .bool true]) (by simp [results, Try.results30, go_sem, *]) rfl ⟨rfl, ?_⟩
    (repeat (first | (with_reducible exact Below.refl _ _) | (with_reducible refine Below.drew ?_) | (with_reducible refine balloc ?_ _ ?_; · (first | (simp; done) | (simp; omega) | omega)) | (with_reducible refine bset ?_ _ ?_; · (first | (simp; done) | (simp; omega) | omega)) | (with_reducible refine bdrewN _ ?_) | (with_reducible refine bcall ?_ (by assumption) ?_; · (first | (simp; done) | (simp; omega) | omega))))

set_option maxHeartbeats 400000 in
theorem sTurnBar_any (x y : Int) (w : World) :
    Calls Try.prog 29 #[bar2 x y] w fun e w' => e = .returned (tbV x y) ∧ Below w.heap.size w w' := by
  cases hB : barB x y
  · have hV : tbV x y = .tuple #[bar2 0 0, .bool false] := by simp [tbV, hB]
    rw [hV]; clear hV
    go_enter Try.func29, Try.ntmps29
    go_wp2_with fail
    refine (brGood_any _ _ _).mono ?_; rintro e w1 ⟨rfl, hb1⟩; have s1 := hb1.size; obtain ⟨hc1, hf1⟩ := bcell hb1; have z1_w0 : w.heap.size < w1.heap.size := (by have q := s1; first | omega | (simp at q; omega)); have z1_w1 : w.heap.size + 1 < w1.heap.size := (by have q := s1; first | omega | (simp at q; omega))
    go_wp2
    refine bodyPost_ret (v := .tuple #[bar2 0 0, .bool false]) (by simp [results, Try.results29, go_sem, *]) rfl ⟨rfl, ?_⟩
    (repeat (first | (with_reducible exact Below.refl _ _) | (with_reducible refine Below.drew ?_) | (with_reducible refine balloc ?_ _ ?_; · (first | (simp; done) | (simp; omega) | omega)) | (with_reducible refine bset ?_ _ ?_; · (first | (simp; done) | (simp; omega) | omega)) | (with_reducible refine bdrewN _ ?_) | (with_reducible refine bcall ?_ (by assumption) ?_; · (first | (simp; done) | (simp; omega) | omega))))
  · have hV : tbV x y = .tuple #[bar2 y x, .bool true] := by simp [tbV, hB]
    rw [hV]; clear hV
    go_enter Try.func29, Try.ntmps29
    go_wp2_with fail
    refine (brGood_any _ _ _).mono ?_; rintro e w1 ⟨rfl, hb1⟩; have s1 := hb1.size; obtain ⟨hc1, hf1⟩ := bcell hb1; have z1_w0 : w.heap.size < w1.heap.size := (by have q := s1; first | omega | (simp at q; omega)); have z1_w1 : w.heap.size + 1 < w1.heap.size := (by have q := s1; first | omega | (simp at q; omega))
    go_wp2
    refine bodyPost_ret (v := .tuple #[bar2 y x, .bool true]) (by simp [results, Try.results29, go_sem, *]) rfl ⟨rfl, ?_⟩
    (repeat (first | (with_reducible exact Below.refl _ _) | (with_reducible refine Below.drew ?_) | (with_reducible refine balloc ?_ _ ?_; · (first | (simp; done) | (simp; omega) | omega)) | (with_reducible refine bset ?_ _ ?_; · (first | (simp; done) | (simp; omega) | omega)) | (with_reducible refine bdrewN _ ?_) | (with_reducible refine bcall ?_ (by assumption) ?_; · (first | (simp; done) | (simp; omega) | omega))))

end Go.Proofs.Ytjaddijhijnlnab
