/-
  Contract: the model's cmKey; words for its tables.
-/
import Derived.Test.YtghlgmbekgfmnaaGr
import Derived.Test.YtghlgmbekgfmnaaPlayS
namespace Go.Proofs.Ytghlgmbekgfmnaa
open Go.RowKit
set_option linter.unusedVariables false

def keyK (l : List Int) : Nat → Int
  | 0 => 0
  | k + 1 => keyK l k * 7 + l.getD k 0
theorem keyK_6 (l : List Int) : keyK l 6 = keyI l := by simp [keyK, keyI]
theorem keyK_in {l : List Int} (h : ChOK l) {k : Nat} (hk : k ≤ 6) : 0 ≤ keyK l k ∧ keyK l k ≤ 117648 ∧ (k < 6 → keyK l k ≤ 16806) := by
  have g := h.ge0
  have u := h.le6
  have g0 := g 0; have g1 := g 1; have g2 := g 2; have g3 := g 3; have g4 := g 4; have g5 := g 5
  have u0 := u 0; have u1 := u 1; have u2 := u 2; have u3 := u 3; have u4 := u 4; have u5 := u 5
  rcases (show k = 0 ∨ k = 1 ∨ k = 2 ∨ k = 3 ∨ k = 4 ∨ k = 5 ∨ k = 6 by omega) with rfl | rfl | rfl | rfl | rfl | rfl | rfl <;> simp only [keyK] <;> omega
theorem keyI_in {l : List Int} (h : ChOK l) : 0 ≤ keyI l ∧ keyI l ≤ 117648 := by
  have := keyK_in h (k := 6) (Nat.le_refl _)
  rw [keyK_6] at this
  exact ⟨this.1, this.2.1⟩

set_option maxRecDepth 100000 in
set_option maxHeartbeats 2000000 in
theorem cmKey_any (A : Option Addr) (n c : Nat) (l : List Int) (w : World) (hr : Rd w 1 A n (intCells l)) (hl : ChOK l) :
    Calls Try.prog 95 #[.slice A n c] w fun e w' => e = .returned (.int .i64 (keyI l)) ∧ w = w' := by
  have hll := hr.ilen
  have n6 : n ≤ 6 := by have := hl.2.1; omega
  have HL := Lib.hid hl
  have HLL := Lib.hid hll
  rw [← keyK_6]
  clear hl hll
  go_enter Try.func95, Try.ntmps95
  go_wp2
  go_loop [3, 4] (fun q i => ∃ k : Nat, k ≤ 6 ∧ i = .int .i64 k ∧ q = .int .i64 (keyK l k)) (fun _ i => 6 - (intOf i).toNat)
  case atStart => exact ⟨0, by omega, rfl, rfl⟩
  case round =>
    obtain ⟨k, hk, rfl, rfl⟩ := hrel
    have hb := keyK_in HL.out hk
    by_cases hlt : k < 6
    · obtain ⟨b0, b1, b2⟩ := hb
      have b3 := b2 hlt
      have HS : Hid (keyK l (k + 1) = keyK l k * 7 + l.getD k 0) := rfl
      by_cases hkn : k < n
      · obtain ⟨b, o, rfl, _, hx, p0⟩ := hr.num hkn
        have HQ := Lib.hid (getD_lt hx)
        have h6 := HL.out.le6 k
        have h0 := HL.out.ge0 k
        rw [getD_lt hx] at h6 h0
        have hd : decide ((k : Int) < (n : Int)) = true := decide_eq_true (by omega)
        generalize l[k] = z at *
        clear hx b2
        generalize keyK l k = q at *
        go_wp2
        go_round
        case rel => exact ⟨k + 1, by omega, by go_num, by rw [HS.out, HQ.out]⟩
        case measure => simp [intOf]; omega
      · have HQ : Hid (l.getD k 0 = 0) := getD_past (by have := HLL.out; omega)
        have hd : decide ((k : Int) < (n : Int)) = false := decide_eq_false (by omega)
        clear b2
        generalize keyK l k = q at *
        go_wp2
        go_round
        case rel => exact ⟨k + 1, by omega, by go_num, by rw [HS.out, HQ.out]; simp⟩
        case measure => simp [intOf]; omega
    · have hk6 : k = 6 := by omega
      go_wp2
      go_ret
      exact ⟨rfl, rfl⟩

def boolCells (l : List Bool) : List Value := l.map Value.bool
theorem length_boolCells (l : List Bool) : (boolCells l).length = l.length := by simp [boolCells]
theorem boolCells_at {l : List Bool} {k : Nat} (h : k < l.length) : (boolCells l)[k]? = some (.bool l[k]) := by simp [boolCells, h]
theorem set_boolCells (l : List Bool) (k : Nat) (s : Bool) : (boolCells l).set k (.bool s) = boolCells (l.set k s) := by simp [boolCells, List.map_set]
theorem boolI_info : (Try.prog.info? 4).map (fun i => (i.zero, i.size, i.bytes)) = some (some (.bool false), 1, 1) := by kernel_rfl

/-- the table is right for the first p chomps of a list -/
def TabC (tbl : List Int) (L : List (List Int)) (p : Nat) : Prop := ∀ i (h : i < L.length), i < p → tbl.getD (keyI L[i]).toNat 0 = (gr L[i] : Nat) + 1
theorem getD_set {l : List Int} {k j : Nat} {v : Int} (hk : k < l.length) : (l.set k v).getD j 0 = if j = k then v else l.getD j 0 := by
  by_cases e : j = k
  · subst e; rw [if_pos rfl]; simp [List.getD, hk]
  · rw [if_neg e]
    simp only [List.getD]
    rw [List.getElem?_set_ne (fun q => e q.symm)]
theorem TabC.put {tbl : List Int} {H W p : Nat} (hH : H ≤ 6) (hW : W ≤ 6) (h : TabC tbl (chs H W []) p) (hp : p < (chs H W []).length) (hn : tbl.length = 117649) :
    TabC (tbl.set (keyI (chs H W [])[p]).toNat ((gr (chs H W [])[p] : Nat) + 1)) (chs H W []) (p + 1) := by
  intro i hi hip
  have ok : ∀ (j : Nat) (hj : j < (chs H W []).length), ChOK (chs H W [])[j] := fun j hj => ((mem_all hH hW).1 (List.getElem_mem hj)).1
  have kb := fun (j : Nat) (hj : j < (chs H W []).length) => keyI_in (ok j hj)
  have hb := kb p hp
  rw [getD_set (by omega)]
  by_cases e : i = p
  · subst e; rw [if_pos rfl]
  · have hlt : i < p := by omega
    have hs := List.pairwise_iff_getElem.1 (keys_sorted hH hW) i p hi hp hlt
    have := kb i hi
    rw [if_neg (by omega)]
    exact h i hi hlt
/-- a bite of a chomp comes before it -/
theorem bite_before {H W p : Nat} (hH : H ≤ 6) (hW : W ≤ 6) (hp : p < (chs H W []).length) {x y : Int} (hc : canC (chs H W [])[p] x y = true) {tbl : List Int} (h : TabC tbl (chs H W []) p) :
    tbl.getD (keyI (biteL (chs H W [])[p] x y)).toNat 0 = (gr (biteL (chs H W [])[p] x y) : Nat) + 1 := by
  have hm := (mem_all hH hW).1 (List.getElem_mem hp)
  generalize hl : (chs H W [])[p] = l at *
  have hb := biteL_ok hm.1 hc
  have hmem : biteL l x y ∈ chs H W [] := by
    refine (mem_all hH hW).2 ⟨hb, ?_, ?_⟩
    · have h1 := (canC_true hc).1
      obtain ⟨q, hq, he, _⟩ := (eatF_fall hm.1.fall (y := y.toNat) h1).rows 6
      by_cases hle : (biteL l x y).length ≤ l.length
      · omega
      · exfalso
        have k := hb.ge1 (k := l.length) (by omega)
        rw [biteL_at hm.1 hc] at k
        have e : l.getD l.length 0 = 0 := getD_past (Nat.le_refl _)
        unfold eatF at k
        simp only [e] at k
        split at k
        · split at k <;> omega
        · omega
    · rw [biteL_at hm.1 hc]
      have := hm.2.2
      show (if y.toNat ≤ 0 then (if x < l.getD 0 0 then x else l.getD 0 0) else l.getD 0 0) ≤ (W : Int)
      split
      · split <;> omega
      · exact this
  obtain ⟨i, hi, e⟩ := List.getElem_of_mem hmem
  have hk := biteL_key hm.1 hc
  have hip : i < p := by
    by_cases hlt : i < p
    · exact hlt
    · exfalso
      by_cases e2 : i = p
      · subst e2; rw [hl] at e; rw [← e] at hk; omega
      · have hs := List.pairwise_iff_getElem.1 (keys_sorted hH hW) p i hp hi (by omega)
        rw [hl, e] at hs
        omega
  have := h i hi hip
  rw [e] at this
  exact this

end Go.Proofs.Ytghlgmbekgfmnaa
