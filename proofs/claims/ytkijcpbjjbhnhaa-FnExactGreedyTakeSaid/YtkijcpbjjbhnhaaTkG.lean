/-
  Contracts: BestTake, FirstTakes and GreedyTake of the program. Conditions: none.
-/
import Derived.Test.YtkijcpbjjbhnhaaTkB
namespace Go.Proofs.Ytkijcpbjjbhnhaa
open Go.RowKit
set_option linter.unusedVariables false
set_option linter.unusedSimpArgs false

set_option maxRecDepth 100000 in
set_option maxHeartbeats 4000000 in
theorem greedyTakes_any : ∀ (n : Nat) (A : Option Addr) (c : Nat) (l : List Int) (w : World), n ≤ 20 → Rd w 1 A n (intCells l) → n ≤ c → c ≤ 4000000000 → (∀ z ∈ l, 0 ≤ z ∧ z ≤ 1000) →
    Calls Try.prog 59 #[.slice A n c] w fun e w' => e = .returned (tkV (gkP n l).1 (gkP n l).2 (gkT n l)) ∧ Below w.heap.size w w' := by
  intro n
  induction n with
  | zero =>
    intro A c l w hn hr hc hc2 hl
    have hl0 : l = [] := List.length_eq_zero_iff.1 hr.ilen
    subst hl0
    clear hr
    go_enter Try.func59, Try.ntmps59
    go_wp2
    refine bodyPost_ret (v := tkV 0 0 ⟨#[]⟩) (by simp [results, Try.results59, go_sem, *]) rfl ⟨rfl, by (repeat (first | (with_reducible exact Below.refl _ _) | (with_reducible assumption) | (with_reducible refine Below.drew ?_) | ((with_reducible refine balloc ?_ _ ?_); · (first | (simp; done) | (simp; omega) | omega)) | ((with_reducible refine bset ?_ _ ?_); · (first | (simp; done) | (simp; omega) | omega)) | (with_reducible refine bdrewN _ ?_) | ((with_reducible refine bcall ?_ (by assumption) ?_); · (first | (simp; done) | (simp; omega) | omega))))⟩
  | succ n ih =>
    intro A c l w hn hr hc hc2 hl
    have hll := hr.ilen
    have hx1 := gkP_in n l.tail (by simp [hll]) (mem_tailW hl)
    have hx2 := gkP_in n l.dropLast (by simp [hll]) (mem_lastW hl)
    have hs := sumW_bound hl
    have e1 := sum_tailW (l := l) (by omega)
    have e2 := sum_lastW hll
    have hz1 := getD_in (l := l) (k := 0) (by omega) hl
    have hz2 := getD_in (l := l) (k := n) (by omega) hl
    obtain ⟨b1, o1, rfl, l1, hx, p1⟩ := hr.num (show n < n + 1 by omega)
    obtain ⟨b1', o1', eA, _, hx0, p0⟩ := hr.num (show 0 < n + 1 by omega)
    injection eA with eA; injection eA with eA1 eA2
    subst eA1 eA2
    have q1 : l[n] = l.getD n 0 := by rw [List.getD_eq_getElem?_getD, List.getElem?_eq_getElem hx]; rfl
    have q0 : l[0] = l.getD 0 0 := by rw [List.getD_eq_getElem?_getD, List.getElem?_eq_getElem hx0]; rfl
    rw [q1] at p1
    rw [q0, Nat.add_zero] at p0
    have HF := Lib.hid (fun w hr => takeFirstG_any n c (some ⟨b1, o1, none⟩) l (gkP n l.tail).1 (gkP n l.tail).2 (gkT n l.tail) w hr (by omega) hc hc2 (by omega) (by omega) (by omega) (by rw [size_gkT]; omega)
      (fun A' c' w' h1 h2 h3 => ih A' c' l.tail w' (by omega) h1 h2 h3 (mem_tailW hl)))
    have HL := Lib.hid (fun w hr => takeLastG_any n c (some ⟨b1, o1, none⟩) l (gkP n l.dropLast).1 (gkP n l.dropLast).2 (gkT n l.dropLast) w hr (by omega) hc hc2 (by omega) (by omega) (by omega) (by rw [size_gkT]; omega)
      (fun A' c' w' h1 h2 h3 => ih A' c' l.dropLast w' (by omega) h1 h2 h3 (mem_lastW hl)))
    have HR := Lib.hid hr
    simp only [gkP, gkT]
    have hne : ((n : Int) + 1 == 0) = false := by simp; omega
    have hin : ((n : Int) < (n : Int) + 1) = True := by simp; omega
    have hge : ((0 : Int) ≤ (n : Int)) = True := by simp
    have P0 : (w.alloc (.cells #[.int .i64 0, .int .i64 0, .string ⟨#[]⟩] 62)).cell? ⟨b1, o1, none⟩ = some (.int .i64 (l.getD 0 0)) := by rw [World.cell?_alloc_lt _ _ _ l1]; exact p0
    have P1 : (w.alloc (.cells #[.int .i64 0, .int .i64 0, .string ⟨#[]⟩] 62)).cell? ⟨b1, o1 + n, none⟩ = some (.int .i64 (l.getD n 0)) := by rw [World.cell?_alloc_lt _ _ _ l1]; exact p1
    clear ih hr hx1 hx2 hs e1 e2 hll hl p0 p1 q0 q1 hx hx0
    generalize l.getD 0 0 = z0 at *
    generalize l.getD n 0 = zn at *
    by_cases hc1 : z0 < zn
    · rw [if_pos hc1, if_pos hc1]
      have hd : decide (z0 < zn) = true := by simp; omega
      clear HF hc1
      generalize zn + (gkP n l.dropLast).2 = a at *
      generalize (gkP n l.dropLast).1 = b at *
      generalize (⟨#[108]⟩ : ByteArray) ++ gkT n l.dropLast = t at *
      go_enter Try.func59, Try.ntmps59
      go_wp2
      go_quiet (fail)
      go_wp2_with fail
      refine (HL.out _ ((HR.out.alloc _).later (bdrewN _ (Below.refl _ _)) (Nat.le_refl _))).mono ?_; rintro e w1 ⟨rfl, hb1⟩; have s1 := hb1.size; simp at s1
      have g0 := (hb1.cell (p := ⟨w.heap.size, 0, none⟩) (by simp)).trans (show _ = some (.int .i64 0) by simp [go_sem])
      have g1 := (hb1.cell (p := ⟨w.heap.size, 1, none⟩) (by simp)).trans (show _ = some (.int .i64 0) by simp [go_sem])
      have g2 := (hb1.cell (p := ⟨w.heap.size, 2, none⟩) (by simp)).trans (show _ = some (.string ⟨#[]⟩) by simp [go_sem])
      have f0 := (hb1.frozen (p := ⟨w.heap.size, 0, none⟩) (by simp)).trans (show _ = false by simp [go_sem])
      have f1 := (hb1.frozen (p := ⟨w.heap.size, 1, none⟩) (by simp)).trans (show _ = false by simp [go_sem])
      have f2 := (hb1.frozen (p := ⟨w.heap.size, 2, none⟩) (by simp)).trans (show _ = false by simp [go_sem])
      have z2 : w.heap.size < w1.heap.size := by omega
      have BB : Below w.heap.size w w1 := by (repeat (first | (with_reducible exact Below.refl _ _) | (with_reducible assumption) | (with_reducible refine Below.drew ?_) | ((with_reducible refine balloc ?_ _ ?_); · (first | (simp; done) | (simp; omega) | omega)) | ((with_reducible refine bset ?_ _ ?_); · (first | (simp; done) | (simp; omega) | omega)) | (with_reducible refine bdrewN _ ?_) | ((with_reducible refine bcall ?_ (by assumption) ?_); · (first | (simp; done) | (simp; omega) | omega))))
      clear hb1 HL HR s1 P0 P1
      go_wp2
      refine bodyPost_ret (v := tkV a b t) (by simp [results, Try.results59, go_sem, *]) rfl ⟨rfl, by (repeat (first | (with_reducible exact Below.refl _ _) | (with_reducible assumption) | (with_reducible refine Below.drew ?_) | ((with_reducible refine balloc ?_ _ ?_); · (first | (simp; done) | (simp; omega) | omega)) | ((with_reducible refine bset ?_ _ ?_); · (first | (simp; done) | (simp; omega) | omega)) | (with_reducible refine bdrewN _ ?_) | ((with_reducible refine bcall ?_ (by assumption) ?_); · (first | (simp; done) | (simp; omega) | omega))))⟩
    · rw [if_neg hc1, if_neg hc1]
      have hd : decide (z0 < zn) = false := by simp; omega
      clear HL hc1
      generalize z0 + (gkP n l.tail).2 = a at *
      generalize (gkP n l.tail).1 = b at *
      generalize (⟨#[102]⟩ : ByteArray) ++ gkT n l.tail = t at *
      go_enter Try.func59, Try.ntmps59
      go_wp2
      go_quiet (fail)
      go_wp2_with fail
      refine (HF.out _ ((HR.out.alloc _).later (bdrewN _ (Below.refl _ _)) (Nat.le_refl _))).mono ?_; rintro e w1 ⟨rfl, hb1⟩; have s1 := hb1.size; simp at s1
      have g0 := (hb1.cell (p := ⟨w.heap.size, 0, none⟩) (by simp)).trans (show _ = some (.int .i64 0) by simp [go_sem])
      have g1 := (hb1.cell (p := ⟨w.heap.size, 1, none⟩) (by simp)).trans (show _ = some (.int .i64 0) by simp [go_sem])
      have g2 := (hb1.cell (p := ⟨w.heap.size, 2, none⟩) (by simp)).trans (show _ = some (.string ⟨#[]⟩) by simp [go_sem])
      have f0 := (hb1.frozen (p := ⟨w.heap.size, 0, none⟩) (by simp)).trans (show _ = false by simp [go_sem])
      have f1 := (hb1.frozen (p := ⟨w.heap.size, 1, none⟩) (by simp)).trans (show _ = false by simp [go_sem])
      have f2 := (hb1.frozen (p := ⟨w.heap.size, 2, none⟩) (by simp)).trans (show _ = false by simp [go_sem])
      have z2 : w.heap.size < w1.heap.size := by omega
      have BB : Below w.heap.size w w1 := by (repeat (first | (with_reducible exact Below.refl _ _) | (with_reducible assumption) | (with_reducible refine Below.drew ?_) | ((with_reducible refine balloc ?_ _ ?_); · (first | (simp; done) | (simp; omega) | omega)) | ((with_reducible refine bset ?_ _ ?_); · (first | (simp; done) | (simp; omega) | omega)) | (with_reducible refine bdrewN _ ?_) | ((with_reducible refine bcall ?_ (by assumption) ?_); · (first | (simp; done) | (simp; omega) | omega))))
      clear hb1 HF HR s1 P0 P1
      go_wp2
      refine bodyPost_ret (v := tkV a b t) (by simp [results, Try.results59, go_sem, *]) rfl ⟨rfl, by (repeat (first | (with_reducible exact Below.refl _ _) | (with_reducible assumption) | (with_reducible refine Below.drew ?_) | ((with_reducible refine balloc ?_ _ ?_); · (first | (simp; done) | (simp; omega) | omega)) | ((with_reducible refine bset ?_ _ ?_); · (first | (simp; done) | (simp; omega) | omega)) | (with_reducible refine bdrewN _ ?_) | ((with_reducible refine bcall ?_ (by assumption) ?_); · (first | (simp; done) | (simp; omega) | omega))))⟩

def tkA (l : List Int) : Int := if wtB l then tkO l.length l else 0
def tkZ (l : List Int) : Int := if wtB l then l.sum - tkO l.length l else 0
def tkS (l : List Int) : ByteArray := if wtB l then tkT l.length l else ⟨#[]⟩
def gkA (l : List Int) : Int := if wtB l then (gkP l.length l).1 else 0
def gkZ (l : List Int) : Int := if wtB l then (gkP l.length l).2 else 0

set_option maxRecDepth 100000 in
set_option maxHeartbeats 4000000 in
theorem bestTake_any (A : Option Addr) (n c : Nat) (L : List Int) (w : World) (hr : Rd w 1 A n (intCells L)) (hn : n ≤ 4000000000) (hc : n ≤ c) (hc2 : c ≤ 4000000000) :
    Calls Try.prog 32 #[.slice A n c] w fun e w' => e = .returned (.tuple #[.int .i64 (tkA L), .int .i64 (tkZ L), .bool (wtB L)]) ∧ Below w.heap.size w w' := by
  cases h : wtB L
  · rw [show tkA L = 0 by simp [tkA, h], show tkZ L = 0 by simp [tkZ, h]]
    go_enter Try.func32, Try.ntmps32
    go_wp2_with fail
    refine (areWeights_any _ _ _ L _ hr hn).mono ?_; rintro e w1 ⟨rfl, hb1⟩
    rw [h]
    go_wp2
    go_ret3
    exact ⟨rfl, hb1⟩
  · obtain ⟨h1, h2, h3⟩ := wtB_true h
    have hll := hr.ilen
    have HA : Hid (tkA L = tkO n L) := by simp [Hid, tkA, h, hll]
    have HZ : Hid (tkZ L = L.sum - tkO n L) := by simp [Hid, tkZ, h, hll]
    have HB := Lib.hid (fun w hr => bestTakes_any n A c L w (by omega) hr hc hc2 (fun z hz => by have := h3 z hz; omega))
    rw [HA.out, HZ.out]
    clear HA HZ h1 h2 h3 hll
    generalize tkO n L = a at *
    generalize L.sum - a = b at *
    generalize tkT n L = t at *
    go_enter Try.func32, Try.ntmps32
    go_wp2_with fail
    refine (areWeights_any _ _ _ L _ hr hn).mono ?_; rintro e w1 ⟨rfl, hb1⟩
    rw [h]
    go_wp2_with fail
    refine (HB.out _ (hr.later hb1 (Nat.le_refl _))).mono ?_; rintro e w2 ⟨rfl, hb2⟩
    have s1 := hb1.size
    have s2 := hb2.size
    have BB : Below w.heap.size w w2 := bcall s1 hb2 hb1
    clear hb1 hb2
    go_wp2
    go_quiet (fail)
    go_wp2
    go_ret3
    exact ⟨rfl, by (repeat (first | (with_reducible exact Below.refl _ _) | (with_reducible assumption) | (with_reducible refine Below.drew ?_) | ((with_reducible refine balloc ?_ _ ?_); · (first | (simp; done) | (simp; omega) | omega)) | ((with_reducible refine bset ?_ _ ?_); · (first | (simp; done) | (simp; omega) | omega)) | (with_reducible refine bdrewN _ ?_) | ((with_reducible refine bcall ?_ (by assumption) ?_); · (first | (simp; done) | (simp; omega) | omega))))⟩

theorem tk_field2 (a b : Int) (t : ByteArray) (w : World) : (Instr.field 62 (tkV a b t) 2).run Try.prog w = .ok (.string t) w := by kernel_rfl
set_option maxRecDepth 100000 in
set_option maxHeartbeats 4000000 in
theorem firstTakes_any (A : Option Addr) (n c : Nat) (L : List Int) (w : World) (hr : Rd w 1 A n (intCells L)) (hn : n ≤ 4000000000) (hc : n ≤ c) (hc2 : c ≤ 4000000000) :
    Calls Try.prog 34 #[.slice A n c] w fun e w' => e = .returned (.tuple #[.string (tkS L), .bool (wtB L)]) ∧ Below w.heap.size w w' := by
  cases h : wtB L
  · rw [show tkS L = ⟨#[]⟩ by simp [tkS, h]]
    go_enter Try.func34, Try.ntmps34
    go_wp2_with fail
    refine (areWeights_any _ _ _ L _ hr hn).mono ?_; rintro e w1 ⟨rfl, hb1⟩
    rw [h]
    go_wp2
    go_ret2
    exact ⟨rfl, hb1⟩
  · obtain ⟨h1, h2, h3⟩ := wtB_true h
    have hll := hr.ilen
    have HA : Hid (tkS L = tkT n L) := by simp [Hid, tkS, h, hll]
    have HB := Lib.hid (fun w hr => bestTakes_any n A c L w (by omega) hr hc hc2 (fun z hz => by have := h3 z hz; omega))
    rw [HA.out]
    clear HA h1 h2 h3 hll
    generalize tkO n L = a at *
    generalize L.sum - a = b at *
    generalize tkT n L = t at *
    have hfld := fun wx => tk_field2 a b t wx
    go_enter Try.func34, Try.ntmps34
    go_wp2_with fail
    refine (areWeights_any _ _ _ L _ hr hn).mono ?_; rintro e w1 ⟨rfl, hb1⟩
    rw [h]
    go_wp2_with fail
    refine (HB.out _ (hr.later hb1 (Nat.le_refl _))).mono ?_; rintro e w2 ⟨rfl, hb2⟩
    have s1 := hb1.size
    have s2 := hb2.size
    have BB : Below w.heap.size w w2 := bcall s1 hb2 hb1
    clear hb1 hb2
    go_wp2
    go_ret2
    exact ⟨rfl, by (repeat (first | (with_reducible exact Below.refl _ _) | (with_reducible assumption) | (with_reducible refine Below.drew ?_) | ((with_reducible refine balloc ?_ _ ?_); · (first | (simp; done) | (simp; omega) | omega)) | ((with_reducible refine bset ?_ _ ?_); · (first | (simp; done) | (simp; omega) | omega)) | (with_reducible refine bdrewN _ ?_) | ((with_reducible refine bcall ?_ (by assumption) ?_); · (first | (simp; done) | (simp; omega) | omega))))⟩

set_option maxRecDepth 100000 in
set_option maxHeartbeats 4000000 in
theorem greedyTake_any (A : Option Addr) (n c : Nat) (L : List Int) (w : World) (hr : Rd w 1 A n (intCells L)) (hn : n ≤ 4000000000) (hc : n ≤ c) (hc2 : c ≤ 4000000000) :
    Calls Try.prog 36 #[.slice A n c] w fun e w' => e = .returned (.tuple #[.int .i64 (gkA L), .int .i64 (gkZ L), .bool (wtB L)]) ∧ Below w.heap.size w w' := by
  cases h : wtB L
  · rw [show gkA L = 0 by simp [gkA, h], show gkZ L = 0 by simp [gkZ, h]]
    go_enter Try.func36, Try.ntmps36
    go_wp2_with fail
    refine (areWeights_any _ _ _ L _ hr hn).mono ?_; rintro e w1 ⟨rfl, hb1⟩
    rw [h]
    go_wp2
    go_ret3
    exact ⟨rfl, hb1⟩
  · obtain ⟨h1, h2, h3⟩ := wtB_true h
    have hll := hr.ilen
    have HA : Hid (gkA L = (gkP n L).1) := by simp [Hid, gkA, h, hll]
    have HZ : Hid (gkZ L = (gkP n L).2) := by simp [Hid, gkZ, h, hll]
    have HB := Lib.hid (fun w hr => greedyTakes_any n A c L w (by omega) hr hc hc2 (fun z hz => by have := h3 z hz; omega))
    rw [HA.out, HZ.out]
    clear HA HZ h1 h2 h3 hll
    generalize (gkP n L).1 = a at *
    generalize (gkP n L).2 = b at *
    generalize gkT n L = t at *
    go_enter Try.func36, Try.ntmps36
    go_wp2_with fail
    refine (areWeights_any _ _ _ L _ hr hn).mono ?_; rintro e w1 ⟨rfl, hb1⟩
    rw [h]
    go_wp2_with fail
    refine (HB.out _ (hr.later hb1 (Nat.le_refl _))).mono ?_; rintro e w2 ⟨rfl, hb2⟩
    have s1 := hb1.size
    have s2 := hb2.size
    have BB : Below w.heap.size w w2 := bcall s1 hb2 hb1
    clear hb1 hb2
    go_wp2
    go_quiet (fail)
    go_wp2
    go_ret3
    exact ⟨rfl, by (repeat (first | (with_reducible exact Below.refl _ _) | (with_reducible assumption) | (with_reducible refine Below.drew ?_) | ((with_reducible refine balloc ?_ _ ?_); · (first | (simp; done) | (simp; omega) | omega)) | ((with_reducible refine bset ?_ _ ?_); · (first | (simp; done) | (simp; omega) | omega)) | (with_reducible refine bdrewN _ ?_) | ((with_reducible refine bcall ?_ (by assumption) ?_); · (first | (simp; done) | (simp; omega) | omega))))⟩

end Go.Proofs.Ytkijcpbjjbhnhaa
