/-
  Contracts: what the model's clues tell of a chomp (pzValue). Conditions: none.
-/
import Derived.Test.YtghlgmbekgfmnaaSumF
import Derived.Test.YtghlgmbekgfmnaaGoodS
namespace Go.Proofs.Ytghlgmbekgfmnaa
open Go.RowKit
set_option linter.unusedVariables false
set_option linter.unusedSimpArgs false

/-- the table of the heaps of all hidden chomps, at a place -/
def TabAt (w : World) (g : Nat) : Prop := ∃ tbl : List Int, w.ownsRow 0 3 1 (.slice (some ⟨g, 0, none⟩) 117649 117649) 117649 (intCells tbl) ∧ TabC tbl (chs 4 5 []) (chs 4 5 []).length
theorem TabAt.later {w w' : World} {g B : Nat} (h : TabAt w g) (hb : Below B w w') (hB : w.heap.size ≤ B) : TabAt w' g := by
  obtain ⟨tbl, ho, ht⟩ := h
  exact ⟨tbl, own_later ho hb hB, ht⟩
theorem TabAt.lt {w : World} {g : Nat} (h : TabAt w g) : g < w.heap.size := by
  obtain ⟨tbl, ho, ht⟩ := h
  exact (ho.lt g rfl).2
theorem TabAt.cell {w : World} {g : Nat} (h : TabAt w g) {l : List Int} (hl : ChOK l) (h1 : l.length ≤ 4) (h2 : l.getD 0 0 ≤ 5) {kn : Nat} (hk : keyI l = kn) : w.cell? ⟨g, kn, none⟩ = some (.int .i64 (grI l + 1)) := by
  obtain ⟨tbl, ho, ht⟩ := h
  have hk6 : kn < 117649 := by have := (keyI_in hl).2; omega
  have hv := TabC.look (H := 4) (W := 5) (by decide) (by decide) ht hl h1 h2
  have hlen : tbl.length = 117649 := by have := ho.1; rw [length_intCells] at this; omega
  rw [hk, Int.toNat_natCast] at hv
  have hc := ho.cellAt kn (by omega)
  rw [hc]
  have hk2 : kn < tbl.length := by omega
  simp only [intCells, List.getElem?_map, List.getElem?_eq_getElem hk2, Option.map_some]
  rw [getD_lt hk2] at hv
  rw [hv]
  rfl

set_option maxRecDepth 100000 in
set_option maxHeartbeats 2000000 in
theorem pzValue_0 (a : Int) (A : Option Addr) (n c : Nat) (l : List Int) (G : Option Addr) (m d : Nat) (w : World) (hr : Rd w 1 A n (intCells l)) (hl : ChOK l) :
    Calls Try.prog 68 #[.int .i64 0, .int .i64 a, .slice A n c, .slice G m d] w fun e w' => e = .returned (.int .i64 l.sum) ∧ Below w.heap.size w w' := by
  have HS := Lib.hid (cmSum_any A n c l w hr hl)
  clear hr hl
  go_enter Try.func68, Try.ntmps68
  go_wp2_with fail
  refine (HS.out).mono ?_; rintro e wx ⟨rfl, rfl⟩
  go_wp2
  go_ret
  exact ⟨rfl, Below.refl _ _⟩

set_option maxRecDepth 100000 in
set_option maxHeartbeats 2000000 in
theorem pzValue_1 (a : Nat) (A : Option Addr) (n c : Nat) (l : List Int) (G : Option Addr) (m d : Nat) (w : World) (hr : Rd w 1 A n (intCells l)) (hl : ChOK l) :
    Calls Try.prog 68 #[.int .i64 1, .int .i64 (a : Int), .slice A n c, .slice G m d] w fun e w' => e = .returned (.int .i64 (l.getD a 0)) ∧ Below w.heap.size w w' := by
  have hll := hr.ilen
  have n6 : n ≤ 6 := by have := hl.2.1; omega
  by_cases ha : a < n
  · obtain ⟨b, o, rfl, hbl, hx, p0⟩ := hr.num ha
    rw [show l.getD a 0 = l[a] by simp [List.getD, hx]]
    generalize l[a] = z at *
    clear hx hll hr hl
    go_enter Try.func68, Try.ntmps68
    go_wp2
    go_ret
    exact ⟨rfl, Below.refl _ _⟩
  · rw [show l.getD a 0 = 0 by simp [List.getD, show l.length ≤ a by omega]]
    clear hll hr hl
    go_enter Try.func68, Try.ntmps68
    go_wp2
    go_ret
    exact ⟨rfl, Below.refl _ _⟩

set_option maxRecDepth 100000 in
set_option maxHeartbeats 4000000 in
theorem pzValue_23 (k : Int) (hk : k = 2 ∨ k = 3) (a : Int) (A : Option Addr) (n c : Nat) (l : List Int) (g : Nat) (w : World) (hr : Rd w 1 A n (intCells l)) (hl : ChOK l) (h4 : l.length ≤ 4) (h5 : l.getD 0 0 ≤ 5) (ht : TabAt w g) :
    Calls Try.prog 68 #[.int .i64 k, .int .i64 a, .slice A n c, .slice (some ⟨g, 0, none⟩) 117649 117649] w fun e w' => e = .returned (.int .i64 (tellI k a l)) ∧ Below w.heap.size w w' := by
  obtain ⟨kn, hkn⟩ : ∃ kn : Nat, keyI l = kn := ⟨(keyI l).toNat, by have := (keyI_in hl).1; omega⟩
  have hkni : (kn : Int) < 117649 := by have := (keyI_in hl).2; omega
  have hc := ht.cell hl h4 h5 hkn
  have hgl := ht.lt
  have HK : Hid (Calls Try.prog 95 #[.slice A n c] w fun e w' => e = .returned (.int .i64 (kn : Int)) ∧ w = w') := by
    have q := cmKey_any A n c l w hr hl
    rw [hkn] at q
    exact q
  obtain ⟨gv, hgv⟩ : ∃ gv : Nat, gr l = gv := ⟨_, rfl⟩
  have hgv6 : gv ≤ 36 := by have := gr_le hl; omega
  have hgi : grI l = (gv : Int) := by simp [grI, hgv]
  rw [hgi] at hc
  rcases hk with rfl | rfl
  · rw [tellI_2, hgi]
    clear hr hl h4 h5 ht hkn hgv hgi
    by_cases h0 : (0 : Int) < (gv : Int)
    · have hd : decide (1 < (gv : Int) + 1) = true := decide_eq_true (by omega)
      rw [if_pos h0]
      go_enter Try.func68, Try.ntmps68
      go_wp2_with fail
      refine (HK.out).mono ?_; rintro e wx ⟨rfl, rfl⟩
      go_wp2
      go_ret
      exact ⟨rfl, Below.refl _ _⟩
    · have hd : decide (1 < (gv : Int) + 1) = false := decide_eq_false (by omega)
      rw [if_neg h0]
      go_enter Try.func68, Try.ntmps68
      go_wp2_with fail
      refine (HK.out).mono ?_; rintro e wx ⟨rfl, rfl⟩
      go_wp2
      go_ret
      exact ⟨rfl, Below.refl _ _⟩
  · rw [tellI_3, hgi]
    have hgw : IntKind.i64.wrap (gv : Int) = (gv : Int) := IntWalk.i64_in _ (by omega)
    clear hr hl h4 h5 ht hkn hgv hgi
    go_enter Try.func68, Try.ntmps68
    go_wp2_with fail
    refine (HK.out).mono ?_; rintro e wx ⟨rfl, rfl⟩
    go_wp2
    go_ret
    exact ⟨by first | rfl | (go_num) | (refine ret_int ?_; omega), Below.refl _ _⟩

theorem overL_take (a : Int) {l : List Int} {k : Nat} (hk : k < l.length) : overL a (l.take (k + 1)) = overL a (l.take k) + (if a < l[k] then 1 else 0) := by
  unfold overL
  rw [List.take_succ_eq_append_getElem hk, List.filter_append, List.length_append]
  congr 1
  by_cases q : a < l[k] <;> simp [q]

set_option maxRecDepth 100000 in
set_option maxHeartbeats 2000000 in
theorem pzValue_4 (a : Int) (A : Option Addr) (n c : Nat) (l : List Int) (G : Option Addr) (m d : Nat) (w : World) (hr : Rd w 1 A n (intCells l)) (hl : ChOK l) :
    Calls Try.prog 68 #[.int .i64 4, .int .i64 a, .slice A n c, .slice G m d] w fun e w' => e = .returned (.int .i64 (overL a l : Nat)) ∧ Below w.heap.size w w' := by
  have hll := hr.ilen
  have n6 : n ≤ 6 := by have := hl.2.1; omega
  have HL := Lib.hid hll
  clear hll hl
  go_enter Try.func68, Try.ntmps68
  go_wp2
  go_loop [9, 72] (fun s i => ∃ k : Nat, k ≤ n ∧ i = .int .i64 k ∧ s = .int .i64 (overL a (l.take k) : Nat)) (fun _ i => n - (intOf i).toNat)
  case atStart => exact ⟨0, Nat.zero_le _, rfl, by simp [overL]⟩
  case round =>
    obtain ⟨k, hk, rfl, rfl⟩ := hrel
    by_cases hlt : k < n
    · obtain ⟨b1, o1, rfl, l1, hx, p1⟩ := hr.num hlt
      have hv := overL_take a hx
      have hle : overL a (l.take k) ≤ 6 := by
        have h1 := overL_le a (l.take k)
        have h2 : (l.take k).length ≤ k := by rw [List.length_take]; omega
        omega
      generalize l[k] = z at *
      generalize overL a (l.take k) = s at *
      clear hx
      by_cases ha : a < z
      · rw [if_pos ha] at hv
        have HV := Lib.hid hv
        clear hv
        go_wp2
        go_round
        case rel => exact ⟨k + 1, by omega, by go_num, by rw [HV.out]; go_num⟩
        case measure => simp [intOf]; omega
      · rw [if_neg ha] at hv
        have HV := Lib.hid hv
        clear hv
        go_wp2
        go_round
        case rel => exact ⟨k + 1, by omega, by go_num, by rw [HV.out]; rfl⟩
        case measure => simp [intOf]; omega
    · go_wp2
      go_ret
      have : k = n := by omega
      subst this
      exact ⟨ret_int (by rw [List.take_of_length_le (by rw [HL.out]; exact Nat.le_refl _)]), Below.refl _ _⟩
end Go.Proofs.Ytghlgmbekgfmnaa
