/-
  Contracts: BestTake, FirstTakes and GreedyTake of the program. Conditions: none.
-/
import Derived.Test.YtkijcpbjjbhnhaaTk
import Derived.StillTailTactics
import Derived.Deep.QuietTactic
import Derived.BigQuiet
namespace Go.Proofs.Ytkijcpbjjbhnhaa
open Go.RowKit
set_option linter.unusedVariables false
set_option linter.unusedSimpArgs false

theorem size_tkT : ∀ (n : Nat) (l : List Int), (tkT n l).size = n := by
  intro n
  induction n with
  | zero => intro l; rfl
  | succ n ih =>
    intro l
    simp only [tkT]
    split
    · rw [ByteArray.size_append, ih]; show 1 + n = n + 1; omega
    · rw [ByteArray.size_append, ih]; show 1 + n = n + 1; omega
def gkT : Nat → List Int → ByteArray
  | 0, _ => ⟨#[]⟩
  | n + 1, l => if l.getD 0 0 < l.getD n 0 then ⟨#[108]⟩ ++ gkT n l.dropLast else ⟨#[102]⟩ ++ gkT n l.tail
theorem size_gkT : ∀ (n : Nat) (l : List Int), (gkT n l).size = n := by
  intro n
  induction n with
  | zero => intro l; rfl
  | succ n ih =>
    intro l
    simp only [gkT]
    split
    · rw [ByteArray.size_append, ih]; show 1 + n = n + 1; omega
    · rw [ByteArray.size_append, ih]; show 1 + n = n + 1; omega

theorem getD_in {l : List Int} {k : Nat} {a b : Int} (hk : k < l.length) (h : ∀ z ∈ l, a ≤ z ∧ z ≤ b) : a ≤ l.getD k 0 ∧ l.getD k 0 ≤ b := by
  rw [List.getD_eq_getElem?_getD, List.getElem?_eq_getElem hk]
  exact h _ (List.getElem_mem hk)

set_option maxRecDepth 100000 in
set_option maxHeartbeats 4000000 in
theorem bestTakes_any : ∀ (n : Nat) (A : Option Addr) (c : Nat) (l : List Int) (w : World), n ≤ 20 → Rd w 1 A n (intCells l) → n ≤ c → c ≤ 4000000000 → (∀ z ∈ l, 0 ≤ z ∧ z ≤ 1000) →
    Calls Try.prog 58 #[.slice A n c] w fun e w' => e = .returned (tkV (tkO n l) (l.sum - tkO n l) (tkT n l)) ∧ Below w.heap.size w w' := by
  intro n
  induction n with
  | zero =>
    intro A c l w hn hr hc hc2 hl
    have hl0 : l = [] := List.length_eq_zero_iff.1 hr.ilen
    subst hl0
    clear hr
    go_enter Try.func58, Try.ntmps58
    go_wp2
    refine bodyPost_ret (v := tkV 0 0 ⟨#[]⟩) (by simp [results, Try.results58, go_sem, *]) rfl ⟨rfl, by (repeat (first | (with_reducible exact Below.refl _ _) | (with_reducible assumption) | (with_reducible refine Below.drew ?_) | ((with_reducible refine balloc ?_ _ ?_); · (first | (simp; done) | (simp; omega) | omega)) | ((with_reducible refine bset ?_ _ ?_); · (first | (simp; done) | (simp; omega) | omega)) | (with_reducible refine bdrewN _ ?_) | ((with_reducible refine bcall ?_ (by assumption) ?_); · (first | (simp; done) | (simp; omega) | omega))))⟩
  | succ n ih =>
    intro A c l w hn hr hc hc2 hl
    have hll := hr.ilen
    have hx1 := tkO_in n l.tail (by simp [hll]) (mem_tailW hl)
    have hx2 := tkO_in n l.dropLast (by simp [hll]) (mem_lastW hl)
    have hs := sumW_bound hl
    have e1 := sum_tailW (l := l) (by omega)
    have e2 := sum_lastW hll
    have hz1 := getD_in (l := l) (k := 0) (by omega) hl
    have hz2 := getD_in (l := l) (k := n) (by omega) hl
    have HF := Lib.hid (fun w hr => takeFirstB_any n c A l (tkO n l.tail) (l.tail.sum - tkO n l.tail) (tkT n l.tail) w hr (by omega) hc hc2 (by omega) (by omega) (by omega) (by rw [size_tkT]; omega)
      (fun A' c' w' h1 h2 h3 => ih A' c' l.tail w' (by omega) h1 h2 h3 (mem_tailW hl)))
    have HL := Lib.hid (fun w hr => takeLastB_any n c A l (tkO n l.dropLast) (l.dropLast.sum - tkO n l.dropLast) (tkT n l.dropLast) w hr (by omega) hc hc2 (by omega) (by omega) (by omega) (by rw [size_tkT]; omega)
      (fun A' c' w' h1 h2 h3 => ih A' c' l.dropLast w' (by omega) h1 h2 h3 (mem_lastW hl)))
    rw [show l.getD 0 0 + (l.tail.sum - tkO n l.tail) = l.sum - tkO n l.tail by omega] at HF
    rw [show l.getD n 0 + (l.dropLast.sum - tkO n l.dropLast) = l.sum - tkO n l.dropLast by omega] at HL
    have HR := Lib.hid hr
    have b1 : 0 ≤ tkO n l.tail ∧ tkO n l.tail ≤ l.sum := by omega
    have b2 : 0 ≤ tkO n l.dropLast ∧ tkO n l.dropLast ≤ l.sum := by omega
    have b3 : l.sum ≤ 21000 := by omega
    simp only [tkO, tkT]
    clear ih hr hx1 hx2 hs e1 e2 hz1 hz2 hll hl
    generalize tkO n l.tail = x1 at *
    generalize tkO n l.dropLast = x2 at *
    generalize (⟨#[102]⟩ : ByteArray) ++ tkT n l.tail = t1 at *
    generalize (⟨#[108]⟩ : ByteArray) ++ tkT n l.dropLast = t2 at *
    generalize l.sum = s at *
    have hne : ((n : Int) + 1 == 0) = false := by simp; omega
    by_cases hc1 : x1 ≤ x2
    · rw [if_pos hc1, show s - (s - min x1 x2) = x1 by omega, show s - min x1 x2 = s - x1 by omega]
      obtain ⟨a, ha⟩ : ∃ a, a = s - x1 := ⟨_, rfl⟩
      obtain ⟨b, hb⟩ : ∃ b, b = s - x2 := ⟨_, rfl⟩
      have hd : decide (a < b) = false := by simp; omega
      rw [← ha] at HF ⊢
      rw [← hb] at HL
      clear ha hb hc1
      go_enter Try.func58, Try.ntmps58
      go_wp2_with fail
      refine (HF.out _ (HR.out.alloc _)).mono ?_; rintro e w1 ⟨rfl, hb1⟩; have s1 := hb1.size; simp at s1
      go_wp2_with fail
      refine (HL.out _ ((HR.out.alloc _).later hb1 (Nat.le_refl _))).mono ?_; rintro e w2 ⟨rfl, hb2⟩; have s2 := hb2.size
      have g0 := (hb2.cell (p := ⟨w.heap.size, 0, none⟩) (by show w.heap.size < w1.heap.size; omega)).trans ((hb1.cell (p := ⟨w.heap.size, 0, none⟩) (by simp)).trans (show _ = some (.int .i64 0) by simp [go_sem]))
      have g1 := (hb2.cell (p := ⟨w.heap.size, 1, none⟩) (by show w.heap.size < w1.heap.size; omega)).trans ((hb1.cell (p := ⟨w.heap.size, 1, none⟩) (by simp)).trans (show _ = some (.int .i64 0) by simp [go_sem]))
      have g2 := (hb2.cell (p := ⟨w.heap.size, 2, none⟩) (by show w.heap.size < w1.heap.size; omega)).trans ((hb1.cell (p := ⟨w.heap.size, 2, none⟩) (by simp)).trans (show _ = some (.string ⟨#[]⟩) by simp [go_sem]))
      have f0 := (hb2.frozen (p := ⟨w.heap.size, 0, none⟩) (by show w.heap.size < w1.heap.size; omega)).trans ((hb1.frozen (p := ⟨w.heap.size, 0, none⟩) (by simp)).trans (show _ = false by simp [go_sem]))
      have f1 := (hb2.frozen (p := ⟨w.heap.size, 1, none⟩) (by show w.heap.size < w1.heap.size; omega)).trans ((hb1.frozen (p := ⟨w.heap.size, 1, none⟩) (by simp)).trans (show _ = false by simp [go_sem]))
      have f2 := (hb2.frozen (p := ⟨w.heap.size, 2, none⟩) (by show w.heap.size < w1.heap.size; omega)).trans ((hb1.frozen (p := ⟨w.heap.size, 2, none⟩) (by simp)).trans (show _ = false by simp [go_sem]))
      have z2 : w.heap.size < w2.heap.size := by omega
      have z3 : w.heap.size < w1.heap.size := by omega
      have BB : Below w.heap.size w w2 := by (repeat (first | (with_reducible exact Below.refl _ _) | (with_reducible assumption) | (with_reducible refine Below.drew ?_) | ((with_reducible refine balloc ?_ _ ?_); · (first | (simp; done) | (simp; omega) | omega)) | ((with_reducible refine bset ?_ _ ?_); · (first | (simp; done) | (simp; omega) | omega)) | (with_reducible refine bdrewN _ ?_) | ((with_reducible refine bcall ?_ (by assumption) ?_); · (first | (simp; done) | (simp; omega) | omega))))
      clear hb1 hb2 HF HL HR s1 s2
      go_wp2
      refine bodyPost_ret (v := tkV a x1 t1) (by simp [results, Try.results58, go_sem, *]) rfl ⟨rfl, by (repeat (first | (with_reducible exact Below.refl _ _) | (with_reducible assumption) | (with_reducible refine Below.drew ?_) | ((with_reducible refine balloc ?_ _ ?_); · (first | (simp; done) | (simp; omega) | omega)) | ((with_reducible refine bset ?_ _ ?_); · (first | (simp; done) | (simp; omega) | omega)) | (with_reducible refine bdrewN _ ?_) | ((with_reducible refine bcall ?_ (by assumption) ?_); · (first | (simp; done) | (simp; omega) | omega))))⟩
    · rw [if_neg hc1, show s - (s - min x1 x2) = x2 by omega, show s - min x1 x2 = s - x2 by omega]
      obtain ⟨a, ha⟩ : ∃ a, a = s - x1 := ⟨_, rfl⟩
      obtain ⟨b, hb⟩ : ∃ b, b = s - x2 := ⟨_, rfl⟩
      have hd : decide (a < b) = true := by simp; omega
      rw [← ha] at HF
      rw [← hb] at HL ⊢
      clear ha hb hc1
      go_enter Try.func58, Try.ntmps58
      go_wp2_with fail
      refine (HF.out _ (HR.out.alloc _)).mono ?_; rintro e w1 ⟨rfl, hb1⟩; have s1 := hb1.size; simp at s1
      go_wp2_with fail
      refine (HL.out _ ((HR.out.alloc _).later hb1 (Nat.le_refl _))).mono ?_; rintro e w2 ⟨rfl, hb2⟩; have s2 := hb2.size
      have g0 := (hb2.cell (p := ⟨w.heap.size, 0, none⟩) (by show w.heap.size < w1.heap.size; omega)).trans ((hb1.cell (p := ⟨w.heap.size, 0, none⟩) (by simp)).trans (show _ = some (.int .i64 0) by simp [go_sem]))
      have g1 := (hb2.cell (p := ⟨w.heap.size, 1, none⟩) (by show w.heap.size < w1.heap.size; omega)).trans ((hb1.cell (p := ⟨w.heap.size, 1, none⟩) (by simp)).trans (show _ = some (.int .i64 0) by simp [go_sem]))
      have g2 := (hb2.cell (p := ⟨w.heap.size, 2, none⟩) (by show w.heap.size < w1.heap.size; omega)).trans ((hb1.cell (p := ⟨w.heap.size, 2, none⟩) (by simp)).trans (show _ = some (.string ⟨#[]⟩) by simp [go_sem]))
      have f0 := (hb2.frozen (p := ⟨w.heap.size, 0, none⟩) (by show w.heap.size < w1.heap.size; omega)).trans ((hb1.frozen (p := ⟨w.heap.size, 0, none⟩) (by simp)).trans (show _ = false by simp [go_sem]))
      have f1 := (hb2.frozen (p := ⟨w.heap.size, 1, none⟩) (by show w.heap.size < w1.heap.size; omega)).trans ((hb1.frozen (p := ⟨w.heap.size, 1, none⟩) (by simp)).trans (show _ = false by simp [go_sem]))
      have f2 := (hb2.frozen (p := ⟨w.heap.size, 2, none⟩) (by show w.heap.size < w1.heap.size; omega)).trans ((hb1.frozen (p := ⟨w.heap.size, 2, none⟩) (by simp)).trans (show _ = false by simp [go_sem]))
      have z2 : w.heap.size < w2.heap.size := by omega
      have z3 : w.heap.size < w1.heap.size := by omega
      have BB : Below w.heap.size w w2 := by (repeat (first | (with_reducible exact Below.refl _ _) | (with_reducible assumption) | (with_reducible refine Below.drew ?_) | ((with_reducible refine balloc ?_ _ ?_); · (first | (simp; done) | (simp; omega) | omega)) | ((with_reducible refine bset ?_ _ ?_); · (first | (simp; done) | (simp; omega) | omega)) | (with_reducible refine bdrewN _ ?_) | ((with_reducible refine bcall ?_ (by assumption) ?_); · (first | (simp; done) | (simp; omega) | omega))))
      clear hb1 hb2 HF HL HR s1 s2
      go_wp2
      refine bodyPost_ret (v := tkV b x2 t2) (by simp [results, Try.results58, go_sem, *]) rfl ⟨rfl, by (repeat (first | (with_reducible exact Below.refl _ _) | (with_reducible assumption) | (with_reducible refine Below.drew ?_) | ((with_reducible refine balloc ?_ _ ?_); · (first | (simp; done) | (simp; omega) | omega)) | ((with_reducible refine bset ?_ _ ?_); · (first | (simp; done) | (simp; omega) | omega)) | (with_reducible refine bdrewN _ ?_) | ((with_reducible refine bcall ?_ (by assumption) ?_); · (first | (simp; done) | (simp; omega) | omega))))⟩

end Go.Proofs.Ytkijcpbjjbhnhaa
