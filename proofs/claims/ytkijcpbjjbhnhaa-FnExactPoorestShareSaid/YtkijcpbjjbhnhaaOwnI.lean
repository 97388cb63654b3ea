/-
  Contract: the model's own copy of a list of numbers (l1Own), an empty one too. Conditions: none.
-/
import Derived.Test.YtkijcpbjjbhnhaaStkI
import Derived.Laws.AppendOwnNone
namespace Go.Proofs.Ytkijcpbjjbhnhaa
open Go.RowKit
set_option linter.unusedVariables false
set_option linter.unusedSimpArgs false

theorem rd_addO {w : World} {g o n : Nat} {b : List Int} (hr : Rd w 1 (some ⟨g, o, none⟩) n (intCells b)) : ∀ (j : Nat) (u : Value), (intCells b)[j]? = some u → w.cell? ((⟨g, o, none⟩ : Addr).add j) = some u := by
  intro j u hu
  have hj : j < n := by have := (List.getElem?_eq_some_iff.1 hu).1; rw [length_intCells, hr.ilen] at this; exact this
  obtain ⟨g', o', e, _, hc⟩ := hr.2 (by omega)
  injection e with e; injection e with e1 e2
  subst e1 e2
  rw [addr_add]
  exact hc j u hu

set_option maxRecDepth 100000 in
set_option maxHeartbeats 1000000 in
theorem l1OwnN_any (A : Option Addr) (n c : Nat) (b : List Int) (w : World) (hr : Rd w 1 A n (intCells b)) (h0 : n = 0 → A = none ∧ c = 0) (hn : n ≤ 1000) :
    Calls Try.prog 76 #[.slice A n c] w fun e w' => ∃ A' c', e = .returned (.slice A' n c') ∧ w'.ownsRow w.heap.size 3 1 (.slice A' n c') n (intCells b) ∧ Below w.heap.size w w' := by
  obtain ⟨i0, hi, hz0, hz1, hz2⟩ := info_parts int_info
  have hne := World.ownsRow_lit (base := w.heap.size) (e := 3) (size := 1) w #[] 0 (Nat.le_refl _) (by simp [maxLen]) rfl
  have hlen : b.length = n := hr.ilen
  by_cases hn0 : n = 0
  · obtain ⟨rfl, rfl⟩ := h0 hn0
    subst hn0
    obtain rfl : b = [] := List.eq_nil_of_length_eq_zero hlen
    have HNE := Lib.hid hne
    clear hlen h0 hr hn
    go_enter Try.func76, Try.ntmps76
    go_wp2_with (at_builtin; refine wpList_append_own_none rfl (.tmp 3) (.tmp 4) 22 rfl w.heap.size 3 i0 1 Try.underlying22 hi _ _ _ rfl HNE.out rfl ?_)
    go_ret
    exact ⟨some ⟨w.heap.size, 0, none⟩, 0, rfl, HNE.out, by (repeat (first | (with_reducible exact Below.refl _ _) | (with_reducible assumption) | (with_reducible refine Below.drew ?_) | ((with_reducible refine balloc ?_ _ ?_); · (first | (simp; done) | (simp; omega) | omega)) | ((with_reducible refine bset ?_ _ ?_); · (first | (simp; done) | (simp; omega) | omega)) | (with_reducible refine bdrewN _ ?_) | ((with_reducible refine bcall ?_ (by assumption) ?_); · (first | (simp; done) | (simp; omega) | omega))))⟩
  · obtain ⟨g, o, rfl, hgl, _⟩ := hr.2 (by omega)
    have hr2 := hr.alloc (.cells #[] 3)
    have hc0 : (intCells b).length = n * 1 := by rw [length_intCells, hlen, Nat.mul_one]
    have hc1 := rd_addO hr2
    have hc3 : 0 + n ≤ maxLen := by simp only [maxLen]; omega
    have hc4 : (0 + n) * 8 ≤ 140737488355328 := by omega
    have hc5 : w.heap.size ≤ (w.alloc (.cells #[] 3)).heap.size := by simp
    go_enter Try.func76, Try.ntmps76
    go_wp2_with (at_builtin; refine wpList_append_own _ rfl (.tmp 3) (.tmp 4) 22 rfl w.heap.size 3 i0 (.int .i64 0) 1 8 Try.underlying22 hi hz0 hz1 hz2 rfl (by decide) _ _ _ rfl hne ⟨g, o, none⟩ n c (intCells b) rfl hc0 hc1 (int_oneCell b) hc3 hc4 hc5 ?_)
    intro v' w2 hown' hgrow _
    have hb2 := gb_new (Nat.le_refl _) ((Below.refl w.heap.size w).alloc (Nat.le_refl _) (.cells #[] 3)) hgrow (fun g hg => (hne.lt g hg).1)
    obtain ⟨A', c', rfl⟩ := own_slice hown'
    clear hc0 hc1 hc3 hc4 hc5
    go_wp2
    go_ret
    exact ⟨A', c', by simp, by simpa using hown', hb2⟩

end Go.Proofs.Ytkijcpbjjbhnhaa
