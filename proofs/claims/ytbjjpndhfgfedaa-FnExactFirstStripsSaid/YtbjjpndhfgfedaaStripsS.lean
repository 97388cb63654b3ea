/-
  Contracts: the poorest strip of the model; PoorestStrip of both.
-/
import Derived.Test.YtbjjpndhfgfedaaStrips
namespace Go.Proofs.Ytbjjpndhfgfedaa
open Go.RowKit

theorem rect_wide (ss : List ByteArray) (f k n : Nat) : rect ss f 0 (k + 1) n = rect ss f 0 k n + rect ss (f + k) 0 1 n := by
  unfold rect
  rw [← rs_add]
  refine rs_congr n fun j _ => ?_
  simp [rs]
theorem cols_at {ss : List ByteArray} {W n i : Nat} (h : i < W) : (linesL ss W n true)[i]? = some ((rect ss i 0 1 n : Nat) : Int) := by
  simp [linesL, h]
theorem colsum {ss : List ByteArray} {W n f : Nat} (k : Nat) (h : f + k ≤ W) : (((linesL ss W n true).drop f).take k).sum = (rect ss f 0 k n : Nat) := by
  induction k with
  | zero =>
    have : rect ss f 0 0 n = 0 := by
      have z : ∀ n, rs (fun _ => 0) 0 n = 0 := by
        intro n
        induction n with
        | zero => rfl
        | succ n ih => simp only [rs, ih]
      unfold rect
      exact z n
    simp [this]
  | succ k ih =>
    have hl : k < ((linesL ss W n true).drop f).length := by rw [List.length_drop, length_linesL]; simp; omega
    have e : ((linesL ss W n true).drop f)[k] = ((rect ss (f + k) 0 1 n : Nat) : Int) := by
      have q := cols_at (ss := ss) (n := n) (show f + k < W by omega)
      rw [← List.getElem?_drop, List.getElem?_eq_getElem hl] at q
      simpa using q
    have hw := rect_wide ss f k n
    rw [sum_take hl, ih (by omega), e]
    omega
theorem pStrip_nonneg {s : Nat} {L : List Int} (h : Small L) : 0 ≤ pStrip s L := by
  cases s with
  | zero => exact (sum_bound h).1
  | succ s => exact maxTo_nonneg _ _
theorem pFirst_nonneg {s k : Nat} {L : List Int} (h : Small L) : 0 ≤ pFirst s L k := by
  have h1 := (sum_bound (h.take k)).1
  have h2 := pStrip_nonneg (s := s) (h.drop k)
  unfold pFirst imin
  split <;> omega
/-- the model's value for s + 1 sharers -/
def stripV (s : Nat) (L : List Int) : Int := if L.length < s + 1 then -1 else pStrip s L
theorem stripV_bound {s : Nat} {L : List Int} (h : Small L) : -1 ≤ stripV s L := by
  have := pStrip_nonneg (s := s) h
  unfold stripV
  split <;> omega
/-- the model's best so far -/
def bestV (s : Nat) (L : List Int) (k : Nat) : Int := if min k (L.length - (s + 1)) = 0 then -1 else maxTo (pFirst s L) (min k (L.length - (s + 1)))
theorem bestV_skip {s k : Nat} {L : List Int} (h : L.length - (k + 1) < s + 1) (hk : k + 1 ≤ L.length) : bestV s L (k + 1) = bestV s L k := by
  unfold bestV
  rw [show min (k + 1) (L.length - (s + 1)) = min k (L.length - (s + 1)) by omega]
theorem bestV_take {s k : Nat} {L : List Int} (hs : Small L) (h : ¬ L.length - (k + 1) < s + 1) : bestV s L (k + 1) = imax (bestV s L k) (pFirst s L (k + 1)) := by
  unfold bestV
  have h1 : min (k + 1) (L.length - (s + 1)) = k + 1 := by omega
  have h2 : min k (L.length - (s + 1)) = k := by omega
  have hp := pFirst_nonneg (s := s) (k := k + 1) hs
  rw [h1, h2, if_neg (by omega)]
  by_cases hk : k = 0
  · subst hk
    rw [if_pos rfl]
    show imax 0 (pFirst s L (0 + 1)) = imax (-1) (pFirst s L (0 + 1))
    unfold imax
    rw [if_neg (by omega), if_neg (by omega)]
  · rw [if_neg hk]
    rfl
theorem bestV_end {s : Nat} {L : List Int} (h : ¬ L.length < s + 2) : bestV s L (L.length - 1) = pStrip (s + 1) L := by
  unfold bestV
  rw [show min (L.length - 1) (L.length - (s + 1)) = L.length - (s + 1) by omega, if_neg (by omega)]
  rfl
theorem bestV_bound {s k : Nat} {L : List Int} : -1 ≤ bestV s L k := by
  have := maxTo_nonneg (pFirst s L) (min k (L.length - (s + 1)))
  unfold bestV
  split <;> omega
theorem imin_comm (a b : Int) : imin a b = imin b a := by unfold imin; split <;> split <;> omega

set_option maxHeartbeats 400000 in
theorem l1Least_any (a b : Int) (w : World) : Calls Try.prog 78 #[.int .i64 a, .int .i64 b] w fun e w' => e = .returned (.int .i64 (imin a b)) ∧ w = w' := by
  by_cases h : a < b
  · go_enter Try.func78, Try.ntmps78
    go_wp2
    go_ret
    exact ⟨ret_int (by unfold imin; rw [if_pos (by omega)]), rfl⟩
  · go_enter Try.func78, Try.ntmps78
    go_wp2
    go_ret
    exact ⟨ret_int (by unfold imin; rw [if_neg (by omega)]), rfl⟩

def StripSaid (s : Nat) : Prop := ∀ (A : Option Addr) (n c W : Nat) (ss : List ByteArray) (f t : Int) (f' : Nat) (w : World), Rd w 1 A n (strCells ss) → NB ss W n → f = f' → f' ≤ W → t = (s : Int) + 1 → s ≤ 8 →
    Calls Try.prog 68 #[.slice A n c, .int .i64 f, .int .i64 t] w fun e w' => e = .returned (.int .i64 (stripV s ((linesL ss W n true).drop f'))) ∧ w = w'

set_option maxRecDepth 100000 in
set_option maxHeartbeats 4000000 in
theorem ntStrip_any (s : Nat) : StripSaid s := by
  induction s with
  | zero =>
    intro A n c W ss f t f' w hr hb hf hfW ht hs8
    subst hf ht
    have hL : ((linesL ss W n true).drop f').length = W - f' := by rw [List.length_drop, length_linesL]; simp
    obtain ⟨b, o, rfl, hbl, s0, p0, hs0, _⟩ := hr.nut0 hb
    have hs := hs0.out
    subst hs
    have hn1 := hb.h1
    have hW8 := hb.w8
    by_cases hlt : s0.size - f' < 1
    · have hV : Hid (stripV 0 ((linesL ss s0.size n true).drop f') = -1) := by simp only [Hid, stripV]; rw [hL, if_pos hlt]
      clear hL
      go_enter Try.func68, Try.ntmps68
      go_wp2
      go_ret
      exact ⟨by rw [hV.out]; rfl, rfl⟩
    · have hV : Hid (stripV 0 ((linesL ss s0.size n true).drop f') = (rect ss f' 0 (s0.size - f') n : Nat)) := by
        simp only [Hid, stripV]
        rw [hL, if_neg hlt, ← colsum (W := s0.size) (s0.size - f') (by omega), List.take_of_length_le (by rw [hL]; exact Nat.le_refl _)]
        rfl
      clear hL
      go_enter Try.func68, Try.ntmps68
      go_wp2_with fail
      refine (ntSum_any _ _ _ s0.size ss _ _ _ _ f' 0 (s0.size - f') n _ hr hb rfl rfl (by omega) (by omega) (by omega) (by omega)).mono ?_; rintro e wx ⟨rfl, rfl⟩
      go_wp2
      go_ret
      exact ⟨by rw [hV.out]; rfl, rfl⟩
  | succ s ih =>
    intro A n c W ss f t f' w hr hb hf hfW ht hs8
    have hsm := lines_small hb true
    subst hf
    have hL : ((linesL ss W n true).drop f').length = W - f' := by rw [List.length_drop, length_linesL]; simp
    obtain ⟨b, o, rfl, hbl, s0, p0, hs0, _⟩ := hr.nut0 hb
    have hs := hs0.out
    subst hs
    have hn1 := hb.h1
    have hW8 := hb.w8
    have t1 : (t == 1) = false := by simp; omega
    have HT := Lib.hid ht
    have IH := Lib.hid ih
    have HSM := Lib.hid hsm
    have ht2 : 2 ≤ t := by omega
    have ht9 : t ≤ 10 := by omega
    by_cases hlt : s0.size - f' < s + 2
    · have hlt2 : (s0.size : Int) - f' < t := by omega
      have hV : Hid (stripV (s + 1) ((linesL ss s0.size n true).drop f') = -1) := by simp only [Hid, stripV]; rw [hL, if_pos (by omega)]
      clear hL ih hsm ht
      go_enter Try.func68, Try.ntmps68
      go_wp2
      go_ret
      exact ⟨by rw [hV.out]; rfl, rfl⟩
    · have hlt2 : ¬ (s0.size : Int) - f' < t := by omega
      have hV : Hid (stripV (s + 1) ((linesL ss s0.size n true).drop f') = bestV s ((linesL ss s0.size n true).drop f') (s0.size - f' - 1)) := by
        simp only [Hid, stripV]
        rw [hL, if_neg (by omega), ← bestV_end (by rw [hL]; exact hlt), hL]
      have HL := Lib.hid hL
      clear hL ih hsm ht
      go_enter Try.func68, Try.ntmps68
      go_wp2
      go_loop [7, 8, 9] (fun m i _ => ∃ k : Nat, k ≤ s0.size - f' - 1 ∧ i = .int .i64 ((f' : Int) + 1 + k) ∧ m = .int .i64 (bestV s ((linesL ss s0.size n true).drop f') k)) (fun _ i _ => s0.size + 1 - (intOf i).toNat)
      case atStart => exact ⟨0, Nat.zero_le _, by go_num, by unfold bestV; rw [if_pos (by omega)]⟩
      case round =>
        obtain ⟨k, hk, rfl, rfl⟩ := hrel
        by_cases hlk : k < s0.size - f' - 1
        · have hcs := colsum (ss := ss) (W := s0.size) (n := n) (f := f') (k + 1) (by omega)
          have hdd : ((linesL ss s0.size n true).drop f').drop (k + 1) = (linesL ss s0.size n true).drop (f' + (k + 1)) := by rw [List.drop_drop]
          have hsd : Small ((linesL ss s0.size n true).drop f') := Small.drop HSM.out f'
          have hbb := bestV_bound (s := s) (k := k) (L := (linesL ss s0.size n true).drop f')
          by_cases hrest : (s0.size - f') - (k + 1) < s + 1
          · have hst : stripV s ((linesL ss s0.size n true).drop (f' + (k + 1))) = -1 := by
              rw [← hdd]
              unfold stripV
              rw [List.length_drop, HL.out, if_pos hrest]
            have HB := Lib.hid (bestV_skip (s := s) (k := k) (L := (linesL ss s0.size n true).drop f') (by rw [HL.out]; exact hrest) (by rw [HL.out]; omega))
            clear hcs hdd hsd
            go_wp2_with fail
            refine (IH.out _ _ _ s0.size ss _ _ (f' + (k + 1)) _ hr hb (by omega) (by omega) (by have := HT.out; omega) (by omega)).mono ?_; rintro e wx ⟨rfl, rfl⟩
            rw [hst]
            clear hst
            go_wp2
            go_round
            case rel => exact ⟨k + 1, by omega, by go_num, by rw [HB.out]⟩
            case measure => simp [intOf]; omega
          · have hst : stripV s ((linesL ss s0.size n true).drop (f' + (k + 1))) = pStrip s (((linesL ss s0.size n true).drop f').drop (k + 1)) := by
              rw [← hdd]
              unfold stripV
              rw [List.length_drop, HL.out, if_neg hrest]
            have hp0 := pStrip_nonneg (s := s) (hsd.drop (k + 1))
            have HB := Lib.hid (bestV_take (s := s) (k := k) (L := (linesL ss s0.size n true).drop f') hsd (by rw [HL.out]; exact hrest))
            have HF : Hid (pFirst s ((linesL ss s0.size n true).drop f') (k + 1) = imin (pStrip s (((linesL ss s0.size n true).drop f').drop (k + 1))) (rect ss f' 0 (k + 1) n : Nat)) := by
              simp only [Hid]
              rw [imin_comm, ← hcs]
              rfl
            have HST := Lib.hid hst
            clear hcs hdd hsd hst
            generalize pStrip s (((linesL ss s0.size n true).drop f').drop (k + 1)) = q at *
            go_wp2_with fail
            refine (IH.out _ _ _ s0.size ss _ _ (f' + (k + 1)) _ hr hb (by omega) (by omega) (by have := HT.out; omega) (by omega)).mono ?_; rintro e wx ⟨rfl, rfl⟩
            rw [HST.out]
            go_wp2_with fail
            refine (ntSum_any _ _ _ s0.size ss _ _ _ _ f' 0 (k + 1) n _ hr hb rfl rfl (by omega) (by omega) (by omega) (by omega)).mono ?_; rintro e wx ⟨rfl, rfl⟩
            go_wp2_with fail
            refine (l1Least_any _ _ _).mono ?_; rintro e wx ⟨rfl, rfl⟩
            go_wp2_with fail
            refine (l1Most_any _ _ _).mono ?_; rintro e wx ⟨rfl, rfl⟩
            go_wp2
            go_round
            case rel => exact ⟨k + 1, by omega, by go_num, by rw [HB.out, HF.out]⟩
            case measure => simp [intOf]; omega
        · have hkn : k = s0.size - f' - 1 := by omega
          subst hkn
          go_wp2
          go_ret
          exact ⟨by rw [hV.out]; rfl, rfl⟩

end Go.Proofs.Ytbjjpndhfgfedaa
