/-
  Contracts: the poorest strip, of the program and of the model.
-/
import Derived.Test.YtbjjpndhfgfedaaBreaks
import Derived.Deep.RegionHeld3
namespace Go.Proofs.Ytbjjpndhfgfedaa
open Go.RowKit

def imin (a b : Int) : Int := if a < b then a else b
def maxTo (f : Nat → Int) : Nat → Int
  | 0 => 0
  | k + 1 => imax (maxTo f k) (f (k + 1))
/-- what the poorest of s + 1 sharers can have of lines -/
def pStrip : Nat → List Int → Int
  | 0, L => L.sum
  | s + 1, L => maxTo (fun k => imin (L.take k).sum (pStrip s (L.drop k))) (L.length - (s + 1))
/-- .. with a first strip of k lines, of s + 2 sharers -/
def pFirst (s : Nat) (L : List Int) (k : Nat) : Int := imin (L.take k).sum (pStrip s (L.drop k))

def Small (L : List Int) : Prop := ∀ z ∈ L, 0 ≤ z ∧ z ≤ 1000
theorem Small.take {L : List Int} (h : Small L) (k : Nat) : Small (L.take k) := fun z hz => h z (List.mem_of_mem_take hz)
theorem Small.drop {L : List Int} (h : Small L) (k : Nat) : Small (L.drop k) := fun z hz => h z (List.mem_of_mem_drop hz)

theorem Rd.itake {w : World} {n k b o : Nat} {L : List Int} (h : Rd w 1 (some ⟨b, o, none⟩) n (intCells L)) (hk : k ≤ n) : Rd w 1 (some ⟨b, o, none⟩) k (intCells (L.take k)) := by
  have hl := h.ilen
  refine ⟨by rw [length_intCells, List.length_take]; omega, fun h0 => ?_⟩
  obtain ⟨b', o', e, hb, hc⟩ := h.2 (by omega)
  refine ⟨b', o', e, hb, fun j u hu => hc j u ?_⟩
  have hj : j < k := by have := (List.getElem?_eq_some_iff.1 hu).1; rw [length_intCells, List.length_take] at this; omega
  simp only [intCells, List.map_take, List.getElem?_take, if_pos hj] at hu
  exact hu
theorem Rd.idrop {w : World} {n k b o : Nat} {L : List Int} (h : Rd w 1 (some ⟨b, o, none⟩) n (intCells L)) (hk : k ≤ n) : Rd w 1 (some ⟨b, o + k, none⟩) (n - k) (intCells (L.drop k)) := by
  have hl := h.ilen
  refine ⟨by rw [length_intCells, List.length_drop]; omega, fun h0 => ?_⟩
  obtain ⟨b', o', e, hb, hc⟩ := h.2 (by omega)
  simp only [Option.some.injEq, Addr.mk.injEq, and_true] at e
  obtain ⟨rfl, rfl⟩ := e
  refine ⟨b, o + k, rfl, hb, fun j u hu => ?_⟩
  have e2 : o + k + j = o + (k + j) := by omega
  rw [e2]
  refine hc (k + j) u ?_
  simp only [intCells, List.map_drop, List.getElem?_drop] at hu
  exact hu

/-- what the model says of the program's poorestOfStrips at s + 1 sharers -/
def PoorSaid (s : Nat) : Prop := ∀ (b o n c : Nat) (L : List Int) (t : Int) (w : World), Rd w 1 (some ⟨b, o, none⟩) n (intCells L) → Small L → n ≤ c → n ≤ 8 → s + 1 ≤ n → t = (s : Int) + 1 →
    Calls Try.prog 70 #[.slice (some ⟨b, o, none⟩) n c, .int .i64 t] w fun e w' => e = .returned (.int .i64 (pStrip s L)) ∧ Below w.heap.size w w'

set_option maxRecDepth 100000 in
set_option maxHeartbeats 4000000 in
theorem withFirst_any (s : Nat) (ih : PoorSaid s) (b o n c k : Nat) (L : List Int) (t : Int) (w : World) (hr : Rd w 1 (some ⟨b, o, none⟩) n (intCells L)) (hs : Small L) (hc : n ≤ c) (hn : n ≤ 8) (h1 : 1 ≤ k) (hk : k + (s + 1) ≤ n) (ht : t = (s : Int) + 2) :
    Calls Try.prog 71 #[.slice (some ⟨b, o, none⟩) n c, .int .i64 k, .int .i64 t] w fun e w' => e = .returned (.int .i64 (pFirst s L k)) ∧ Below w.heap.size w w' := by
  have HS := Lib.hid hs
  have IH := Lib.hid ih
  have u1 : IntKind.i64.wrap (t - 1) = t - 1 := IntWalk.i64_in _ (by omega)
  have u2 : (0 : Int) ≤ (k : Int) := by omega
  have u3 : (k : Int) ≤ (n : Int) := by omega
  have u4 : (k : Int) ≤ (c : Int) := by omega
  have u5 : ¬ c = k := by omega
  have HT := Lib.hid ht
  clear hs ih ht
  rcases (show (L.take k).sum < pStrip s (L.drop k) ∨ pStrip s (L.drop k) ≤ (L.take k).sum by omega) with hlt | hlt
  all_goals
    go_enter Try.func71, Try.ntmps71
    go_wp2
    go_region_held3 (fun w' => Rd w' 1 (some ⟨b, o, none⟩) n (intCells L))
      ((first | assumption | (simp; done)))
      (first | (go_at_call 51; refine (sumOf_any _ _ _ (L.take k) _ (Rd.itake (by assumption) (by omega)) (by omega) (HS.out.take k)).mono ?_; rintro e w1 ⟨rfl, rfl⟩) | (go_at_call 70; refine (IH.out _ _ _ _ (L.drop k) _ _ (Rd.idrop (k := k) (by assumption) (by omega)) (HS.out.drop k) (by omega) (by omega) (by omega) (by have := HT.out; omega)).mono ?_; rintro e w1 ⟨rfl, hb1⟩; have k0 : Rd w1 1 (some ⟨b, o, none⟩) n (intCells L) := Rd.later (by assumption) hb1 (Nat.le_refl _)))
    all_goals
      go_wp2
      all_goals
        go_ret
        exact ⟨ret_int (by unfold pFirst imin; split <;> omega), bcall (b := w.drew) (Nat.le_refl _) (by assumption) (Below.refl _ _).drew⟩

theorem maxTo_nonneg (f : Nat → Int) (k : Nat) : 0 ≤ maxTo f k := by
  induction k with
  | zero => exact Int.le_refl _
  | succ k ih => simp only [maxTo, imax]; split <;> omega

set_option maxRecDepth 100000 in
set_option maxHeartbeats 4000000 in
theorem poorest_any (s : Nat) : PoorSaid s := by
  induction s with
  | zero =>
    intro b o n c L t w hr hs hc hn h1 ht
    subst ht
    have HS := Lib.hid hs
    clear hs
    go_enter Try.func70, Try.ntmps70
    go_wp2_with fail
    refine (sumOf_any _ _ _ L _ hr (by omega) HS.out).mono ?_; rintro e w1 ⟨rfl, rfl⟩
    go_wp2
    go_ret
    exact ⟨rfl, Below.refl _ _⟩
  | succ s ih =>
    intro b o n c L t w hr hs hc hn h1 ht
    have HS := Lib.hid hs
    have IH := Lib.hid ih
    have hl := hr.ilen
    have HP : Hid (pStrip (s + 1) L = maxTo (pFirst s L) (n - (s + 1))) := by simp only [Hid]; rw [← hl]; rfl
    have t1 : (t == 1) = false := by simp; omega
    have ht2 : (2 : Int) ≤ t := by omega
    have ht3 : t ≤ 9 := by omega
    have HT := Lib.hid ht
    clear hs ih hl ht
    go_enter Try.func70, Try.ntmps70
    go_wp2
    go_loopw [5, 6] (fun m i wr => ∃ k : Nat, k ≤ n - (s + 1) ∧ i = .int .i64 ((k : Int) + 1) ∧ m = .int .i64 (maxTo (pFirst s L) k) ∧ Below w.heap.size w wr) (fun _ i _ => n + 1 - (intOf i).toNat)
    case atStart => exact ⟨0, Nat.zero_le _, by go_num, rfl, Below.refl _ _⟩
    case round =>
      obtain ⟨k, hk, rfl, rfl, hB⟩ := hrel
      have hT := HT.out
      by_cases hlt : k < n - (s + 1)
      · have hle : ((k : Int) + 1) ≤ (n : Int) - (t - 1) := by omega
        have HM : Hid (maxTo (pFirst s L) (k + 1) = imax (maxTo (pFirst s L) k) (pFirst s L (k + 1))) := rfl
        have hcall := withFirst_any s IH.out b o n c (k + 1) L t
        have HC := Lib.hid hcall
        clear hT hcall
        generalize maxTo (pFirst s L) k = m at *
        generalize pFirst s L (k + 1) = q at *
        go_wp2_with fail
        refine (HC.out _ (hr.later hB (Nat.le_refl _)) HS.out hc hn (by omega) (by omega) (by have := HT.out; omega)).mono ?_; rintro e w1 ⟨rfl, hb1⟩
        go_wp2
        all_goals
          go_roundw
          case rel => exact ⟨k + 1, by omega, by go_num, by rw [HM.out]; unfold imax; congr 1; split <;> omega, bcall hB.size hb1 hB⟩
          case measure => simp [intOf]; omega
      · have hge : (n : Int) - (t - 1) < ((k : Int) + 1) := by omega
        have hkn : k = n - (s + 1) := by omega
        rw [hkn, ← HP.out]
        clear hT hkn
        go_wp2
        go_ret
        exact ⟨rfl, hB⟩

end Go.Proofs.Ytbjjpndhfgfedaa
