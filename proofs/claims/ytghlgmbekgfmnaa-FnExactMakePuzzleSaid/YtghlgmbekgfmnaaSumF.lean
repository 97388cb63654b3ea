/-
  Contracts: sumOf of the six rows of a chomp, whatever comes behind; rowsOver. Conditions: none.
-/
import Derived.Test.YtghlgmbekgfmnaaPzW
namespace Go.Proofs.Ytghlgmbekgfmnaa
open Go.RowKit
set_option linter.unusedVariables false

theorem sumL_bound {l : List Int} (h : ∀ z ∈ l, 0 ≤ z ∧ z ≤ 1000) : 0 ≤ l.sum ∧ l.sum ≤ 1000 * l.length := by
  induction l with
  | nil => simp
  | cons a l ih =>
    have h1 := h a (by simp)
    have h2 := ih (fun z hz => h z (by simp [hz]))
    simp
    omega
set_option maxHeartbeats 400000 in
theorem sumSm_any (A : Option Addr) (n c : Nat) (l : List Int) (w : World) (hr : Rd w 1 A n (intCells l)) (hn : n ≤ 1000) (hl : ∀ z ∈ l, 0 ≤ z ∧ z ≤ 1000) :
    Calls Try.prog 102 #[.slice A n c] w fun e w' => e = .returned (.int .i64 l.sum) ∧ w = w' := by
  have hll := hr.ilen
  have HLL := Lib.hid hll
  have HL := Lib.hid hl
  clear hll hl
  go_enter Try.func102, Try.ntmps102
  go_wp2
  go_loop [3, 8] (fun s i => ∃ k : Nat, k ≤ n ∧ i = .int .i64 k ∧ s = .int .i64 (l.take k).sum) (fun _ i => n - (intOf i).toNat)
  case atStart => exact ⟨0, Nat.zero_le _, rfl, by simp⟩
  case round =>
    obtain ⟨k, hk, rfl, rfl⟩ := hrel
    by_cases hlt : k < n
    · obtain ⟨b1, o1, rfl, _, hx, p1⟩ := hr.num hlt
      have b2 := sumL_bound (l := l.take k) (fun z hz => HL.out z (List.mem_of_mem_take hz))
      have b3 := HL.out _ (List.getElem_mem hx)
      have b4 : (l.take k).length ≤ 1000 := by rw [List.length_take]; omega
      have HS := Lib.hid (sum_takeI hx)
      generalize (l.take k).sum = S at *
      generalize l[k] = z at *
      go_wp2
      go_round
      case rel => exact ⟨k + 1, by omega, by go_num, by rw [HS.out]⟩
      case measure => simp [intOf]; omega
    · go_wp2
      go_ret
      have : k = n := by omega
      subst this
      exact ⟨ret_int (by rw [List.take_of_length_le (by rw [HLL.out]; exact Nat.le_refl _)]), rfl⟩
theorem BoxF.rd {w : World} {g : Nat} {f : Nat → Int} (h : BoxF w g f) : Rd w 1 (some ⟨g, 0, none⟩) 6 (intCells [f 0, f 1, f 2, f 3, f 4, f 5]) := by
  have e : intCells [f 0, f 1, f 2, f 3, f 4, f 5] = cellsF f := rfl
  rw [e]
  refine ⟨by simp [cellsF], fun _ => ⟨g, 0, rfl, h.lt, fun i v hv => ?_⟩⟩
  have hi : i < 6 := by
    have := (List.getElem?_eq_some_iff.1 hv).1
    simpa [cellsF] using this
  rw [cellsF_at f hi] at hv
  cases hv
  rw [Nat.zero_add]
  exact h.cell hi


theorem six_sum {l : List Int} (hl : ChOK l) : [(fl l) 0, (fl l) 1, (fl l) 2, (fl l) 3, (fl l) 4, (fl l) 5].sum = l.sum := by
  rw [sum6 hl.2.1]
  simp
  omega
theorem six_in {l : List Int} (hl : ChOK l) : ∀ z ∈ [(fl l) 0, (fl l) 1, (fl l) 2, (fl l) 3, (fl l) 4, (fl l) 5], 0 ≤ z ∧ z ≤ 1000 := by
  have q : ∀ j, 0 ≤ (fl l) j ∧ (fl l) j ≤ 1000 := fun j => by
    show 0 ≤ l.getD j 0 ∧ l.getD j 0 ≤ 1000
    have := hl.ge0 j; have := hl.le6 j; exact ⟨by omega, by omega⟩
  intro z hz
  simp only [List.mem_cons, List.not_mem_nil, or_false] at hz
  rcases hz with rfl | rfl | rfl | rfl | rfl | rfl <;> exact q _
/-- how many of the first k rows are longer than a -/
def overK (f : Nat → Int) (a : Int) : Nat → Nat
  | 0 => 0
  | k + 1 => overK f a k + if a < f k then 1 else 0
theorem overK_le (f : Nat → Int) (a : Int) (k : Nat) : overK f a k ≤ k := by
  induction k with
  | zero => exact Nat.le_refl _
  | succ k ih => simp only [overK]; split <;> omega
theorem overK_take (l : List Int) (a : Int) : ∀ k, k ≤ l.length → overK (fl l) a k = overL a (l.take k)
  | 0, _ => by simp [overK, overL]
  | k + 1, h => by
    have hk : k < l.length := by omega
    have ih := overK_take l a k (by omega)
    have e : l.getD k 0 = l[k] := by simp [List.getD, hk]
    simp only [overK, ih, overL]
    rw [List.take_succ_eq_append_getElem hk, List.filter_append, List.length_append]
    show _ + (if a < l.getD k 0 then 1 else 0) = _
    rw [e]
    by_cases q : a < l[k] <;> simp [q]
theorem overK_past (l : List Int) {a : Int} (ha : 0 ≤ a) : ∀ m, overK (fl l) a (l.length + m) = overL a l
  | 0 => by rw [Nat.add_zero, overK_take l a l.length (Nat.le_refl _), List.take_of_length_le (Nat.le_refl _)]
  | m + 1 => by
    have e : fl l (l.length + m) = 0 := by show l.getD (l.length + m) 0 = 0; simp [List.getD]
    rw [← Nat.add_assoc]
    simp only [overK, e, overK_past l ha m]
    rw [if_neg (by omega)]
    omega
theorem overK_6 {l : List Int} (hl : ChOK l) {a : Int} (ha : 0 ≤ a) : overK (fl l) a 6 = overL a l := by
  have h := overK_past l ha (6 - l.length)
  rwa [show l.length + (6 - l.length) = 6 by have := hl.2.1; omega] at h

set_option maxRecDepth 100000 in
set_option maxHeartbeats 2000000 in
theorem rowsOver_any (f : Nat → Int) (a : Int) (w : World) :
    Calls Try.prog 104 #[arrF f, .int .i64 a] w fun e w' => e = .returned (.int .i64 (overK f a 6 : Nat)) ∧ Below w.heap.size w w' := by
  have hidx := fun (k : Nat) (hk : k < 6) (wx : World) => idx_arr f hk wx
  have HI := Lib.hid hidx
  obtain ⟨c0, c1, c2, c3, c4, c5⟩ := (BoxF.new w f).cells
  clear hidx
  go_enter Try.func104, Try.ntmps104
  go_wp2
  go_loopw [5, 9] (fun s i wr => ∃ k : Nat, k ≤ 6 ∧ i = .int .i64 k ∧ s = .int .i64 (overK f a k : Nat) ∧ Below w.heap.size w wr) (fun _ i _ => 6 - (intOf i).toNat)
  case atStart => exact ⟨0, Nat.zero_le _, rfl, rfl, by (repeat (first | (with_reducible exact Below.refl _ _) | (with_reducible assumption) | (with_reducible refine Below.drew ?_) | ((with_reducible refine balloc ?_ _ ?_); · (first | (simp; done) | (simp; omega) | omega)) | ((with_reducible refine bset ?_ _ ?_); · (first | (simp; done) | (simp; omega) | omega)) | (with_reducible refine bdrewN _ ?_) | ((with_reducible refine bcall ?_ (by assumption) ?_); · (first | (simp; done) | (simp; omega) | omega))))⟩
  case round =>
    clear c0 c1 c2 c3 c4 c5
    obtain ⟨k, hk, rfl, rfl, hB⟩ := hrel
    by_cases hlt : k < 6
    · have hidx := HI.out k hlt
      have hv : overK f a (k + 1) = overK f a k + if a < f k then 1 else 0 := rfl
      have hle := overK_le f a k
      generalize overK f a k = s at *
      by_cases ha : a < f k
      · rw [if_pos ha] at hv
        have HV := Lib.hid hv
        clear hv
        generalize f k = z at *
        go_wp2
        go_roundw
        case rel => exact ⟨k + 1, by omega, by go_num, by rw [HV.out]; go_num, hB⟩
        case measure => simp [intOf]; omega
      · rw [if_neg ha] at hv
        have HV := Lib.hid hv
        clear hv
        generalize f k = z at *
        go_wp2
        go_roundw
        case rel => exact ⟨k + 1, by omega, by go_num, by rw [HV.out]; rfl, hB⟩
        case measure => simp [intOf]; omega
    · go_wp2
      go_ret
      have : k = 6 := by omega
      subst this
      exact ⟨rfl, hB⟩
end Go.Proofs.Ytghlgmbekgfmnaa
