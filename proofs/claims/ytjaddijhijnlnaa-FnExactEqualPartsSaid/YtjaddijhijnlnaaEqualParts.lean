/-
  Contracts: EqualParts of the program and of the model.
-/
import Derived.Test.YtjaddijhijnlnaaWords
import Derived.Test.YtjaddijhijnlnaaLines
namespace Go.Proofs.Ytjaddijhijnlnaa
open Go.RowKit

/-- the parts of width t: at most one -/
def epAt (X H m t : Nat) : List (Int × Int) := if X % t = 0 ∧ m % (X / t) = 0 ∧ H % (m / (X / t)) = 0 then [((t : Int), ((H / (m / (X / t)) : Nat) : Int))] else []
/-- the parts of widths up to k -/
def epTo (X H m : Nat) : Nat → List (Int × Int)
  | 0 => []
  | k + 1 => epTo X H m k ++ epAt X H m (k + 1)
theorem length_epAt (X H m t : Nat) : (epAt X H m t).length ≤ 1 := by unfold epAt; split <;> simp
theorem length_epTo (X H m k : Nat) : (epTo X H m k).length ≤ k := by
  induction k with
  | zero => simp [epTo]
  | succ k ih => have := length_epAt X H m (k + 1); simp [epTo]; omega

theorem epTo_step (X H m t : Nat) (ht : 1 ≤ t) : epTo X H m t = epTo X H m (t - 1) ++ epAt X H m t := by
  obtain ⟨k, rfl⟩ : ∃ k, t = k + 1 := ⟨t - 1, by omega⟩
  rfl
theorem epAt_no1 {X H m t : Nat} (h : X % t ≠ 0) : epAt X H m t = [] := by simp [epAt, h]
theorem epAt_no2 {X H m t : Nat} (h : m % (X / t) ≠ 0) : epAt X H m t = [] := by simp [epAt, h]
theorem epAt_no3 {X H m t : Nat} (h : H % (m / (X / t)) ≠ 0) : epAt X H m t = [] := by simp [epAt, h]
theorem epAt_yes {X H m t : Nat} (h1 : X % t = 0) (h2 : m % (X / t) = 0) (h3 : H % (m / (X / t)) = 0) : epAt X H m t = [((t : Int), ((H / (m / (X / t)) : Nat) : Int))] := by simp [epAt, h1, h2, h3]

def inAt (X H m t h : Nat) : List (Int × Int) := if X % t = 0 ∧ H % h = 0 ∧ X / t * (H / h) = m then [((t : Int), (h : Int))] else []
def inTo (X H m t : Nat) : Nat → List (Int × Int)
  | 0 => []
  | k + 1 => inTo X H m t k ++ inAt X H m t (k + 1)
theorem inTo_none (X H m t : Nat) (h : ∀ j, 1 ≤ j → inAt X H m t j = []) (k : Nat) : inTo X H m t k = [] := by
  induction k with
  | zero => rfl
  | succ k ih => simp [inTo, ih, h (k + 1) (by omega)]
theorem inTo_one (X H m t h0 : Nat) (h1 : 1 ≤ h0) (h : ∀ j, 1 ≤ j → inAt X H m t j = if j = h0 then [((t : Int), (h0 : Int))] else []) (k : Nat) : inTo X H m t k = if h0 ≤ k then [((t : Int), (h0 : Int))] else [] := by
  induction k with
  | zero => simp [inTo]; omega
  | succ k ih =>
    rw [inTo, ih, h (k + 1) (by omega)]
    by_cases a : h0 ≤ k
    · rw [if_pos a, if_neg (by omega), if_pos (by omega), List.append_nil]
    · by_cases b : k + 1 = h0
      · rw [if_neg a, if_pos b, if_pos (by omega), List.nil_append]
      · rw [if_neg a, if_neg b, if_neg (by omega), List.nil_append]
theorem inTo_all (X H m t : Nat) (ht : 1 ≤ t) (htX : t ≤ X) (hH : 1 ≤ H) (hm : 1 ≤ m) : inTo X H m t H = epAt X H m t := by
  by_cases hx : X % t = 0
  · have hc : 0 < X / t := Nat.div_pos htX ht
    generalize hcol : X / t = c at hc
    by_cases hmc : m % c = 0
    · obtain ⟨r, rfl⟩ : ∃ r, m = c * r := ⟨m / c, (Nat.mul_div_cancel' (Nat.dvd_of_mod_eq_zero hmc)).symm⟩
      have hr : 0 < r := by
        rcases Nat.eq_zero_or_pos r with h | h
        · subst h; omega
        · exact h
      have hdr : c * r / c = r := Nat.mul_div_cancel_left r hc
      by_cases hhr : H % r = 0
      · obtain ⟨h0, rfl⟩ : ∃ h0, H = r * h0 := ⟨H / r, (Nat.mul_div_cancel' (Nat.dvd_of_mod_eq_zero hhr)).symm⟩
        have hh0 : 0 < h0 := by
          rcases Nat.eq_zero_or_pos h0 with h | h
          · subst h; omega
          · exact h
        rw [inTo_one X (r * h0) (c * r) t h0 hh0]
        · rw [if_pos (Nat.le_mul_of_pos_left h0 hr)]
          simp [epAt, hx, hcol, hdr, Nat.mul_div_cancel_left h0 hr]
        · intro j hj
          unfold inAt
          rw [hcol]
          by_cases e : j = h0
          · subst e
            rw [if_pos ⟨hx, Nat.mul_mod_left r j, by rw [Nat.mul_div_cancel r hh0]⟩, if_pos rfl]
          · rw [if_neg e, if_neg]
            rintro ⟨_, h2, h3⟩
            have h4 : r * h0 / j = r := Nat.eq_of_mul_eq_mul_left hc h3
            have h5 := Nat.mul_div_cancel' (Nat.dvd_of_mod_eq_zero h2)
            rw [h4, Nat.mul_comm] at h5
            exact e (Nat.eq_of_mul_eq_mul_left hr h5)
      · rw [inTo_none]
        · simp [epAt, hcol, hdr, hhr]
        · intro j hj
          unfold inAt
          rw [if_neg]
          rintro ⟨_, h2, h3⟩
          rw [hcol] at h3
          have h4 : H / j = r := Nat.eq_of_mul_eq_mul_left hc h3
          have h5 := Nat.mul_div_cancel' (Nat.dvd_of_mod_eq_zero h2)
          rw [h4] at h5
          exact hhr (by rw [← h5]; exact Nat.mul_mod_left j r)
    · rw [inTo_none]
      · simp [epAt, hcol, hmc]
      · intro j hj
        unfold inAt
        rw [if_neg]
        rintro ⟨_, _, h3⟩
        rw [hcol] at h3
        exact hmc (by rw [← h3]; exact Nat.mul_mod_right c _)
  · rw [inTo_none]
    · simp [epAt, hx]
    · intro j hj; simp [inAt, hx]
theorem length_inAt (X H m t h : Nat) : (inAt X H m t h).length ≤ 1 := by unfold inAt; split <;> simp
theorem length_inTo (X H m t k : Nat) : (inTo X H m t k).length ≤ k := by
  induction k with
  | zero => simp [inTo]
  | succ k ih => have := length_inAt X H m t (k + 1); simp [inTo]; omega
theorem inTo_step (X H m t h : Nat) (hh : 1 ≤ h) : inTo X H m t h = inTo X H m t (h - 1) ++ inAt X H m t h := by
  obtain ⟨k, rfl⟩ : ∃ k, h = k + 1 := ⟨h - 1, by omega⟩
  rfl

theorem bar_info : (Try.prog.info? 25).map (fun i => (i.zero, i.size, i.bytes)) = some (some (bar2 0 0), 2, 16) := by kernel_rfl

def epV (X H m : Nat) : List (Int × Int) := epTo X H m X

set_option maxRecDepth 100000 in
set_option maxHeartbeats 2000000 in
theorem equalParts_yes (X H m : Nat) (w : World) (hX : 1 ≤ X) (hX2 : X ≤ 12) (hH : 1 ≤ H) (hH2 : H ≤ 12) (hm : 1 ≤ m) (hm2 : m ≤ 144) :
    Calls Try.prog 62 #[bar2 X H, .int .i64 m] w fun e w' => ∃ A n c, e = .returned (.tuple #[.slice A n c, .bool true]) ∧ w'.ownsRow w.heap.size 25 2 (.slice A n c) n (pairCells (epV X H m)) ∧ Below w.heap.size w w' := by
  have hB : barB X H = true := by simp [barB]; omega
  obtain ⟨i0, hi, hz0, hz1, hz2⟩ := info_parts bar_info
  have t1 : decide ((m : Int) < 1) = false := by simp; omega
  have t2 : decide ((144 : Int) < (m : Int)) = false := by simp; omega
  go_enter Try.func62, Try.ntmps62
  go_wp2_with fail
  refine (isBar_any _ _ _).mono ?_; rintro e w1 ⟨rfl, hb1⟩; have s1 := hb1.size; obtain ⟨hc1, hf1⟩ := bcell hb1; have z1_w0 : w.heap.size < w1.heap.size := (by have q := s1; first | omega | (simp at q; omega))
  have c0 : w1.cell? ⟨w.heap.size, 0, none⟩ = some (.int .i64 X) := by rw [hc1 _ _ (by simp)]; simp [go_sem]
  have c1 : w1.cell? ⟨w.heap.size, 1, none⟩ = some (.int .i64 H) := by rw [hc1 _ _ (by simp)]; simp [go_sem]
  clear hc1 hf1
  go_wp2
  go_loopw [6, 7] (fun v i wr => ∃ (t : Nat) (A : Option Addr) (n c : Nat), 1 ≤ t ∧ t ≤ X + 1 ∧ i = .int .i64 t ∧ v = .slice A n c ∧ wr.ownsRow w1.heap.size 25 2 (.slice A n c) n (pairCells (epTo X H m (t - 1))) ∧ Below w1.heap.size w1 wr) (fun _ i _ => X + 1 - (intOf i).toNat)
  case atStart => exact ⟨1, none, 0, 0, by omega, by omega, rfl, rfl, World.ownsRow_nil _ _ _ _, Below.refl _ _⟩
  case round =>
    obtain ⟨t, A, n, c, ht, ht2, rfl, rfl, hown, hBel⟩ := hrel
    have d0 : wr.cell? ⟨w.heap.size, 0, none⟩ = some (.int .i64 X) := (hBel.cell (p := ⟨w.heap.size, 0, none⟩) z1_w0).trans c0
    have d1 : wr.cell? ⟨w.heap.size, 1, none⟩ = some (.int .i64 H) := (hBel.cell (p := ⟨w.heap.size, 1, none⟩) z1_w0).trans c1
    have tne : ((t : Int) == 0) = false := by simp; omega
    have hn : n ≤ 12 := by have h1 := hown.1; have h2 := length_epTo X H m (t - 1); rw [length_pairCells] at h1; omega
    have sB := hBel.size
    by_cases hlt : t ≤ X
    · by_cases hx : X % t = 0
      · have hx2 := mod_eq hx
        have q1 := wdiv X t (by omega)
        have hcp : 1 ≤ X / t := by have := Nat.div_pos hlt ht; omega
        generalize hcol : X / t = col at q1 hcp
        have Hcol := Lib.hid hcol
        clear hcol
        have cne : ((col : Int) == 0) = false := by simp; omega
        by_cases hmc : m % col = 0
        · have hm3 := mod_eq hmc
          have q2 := wdiv m col (by omega)
          have hrp : 1 ≤ m / col := by have := Nat.div_pos (Nat.le_of_dvd (by omega) (Nat.dvd_of_mod_eq_zero hmc)) (show 0 < col by omega); omega
          generalize hrow : m / col = row at q2 hrp
          have Hrow := Lib.hid hrow
          clear hrow
          have rne : ((row : Int) == 0) = false := by simp; omega
          have q3 := wdiv H row (by omega)
          by_cases hhr : H % row = 0
          · have hh3 := mod_eq' hhr
            have HY : Hid (epAt X H m t = [((t : Int), ((H / row : Nat) : Int))]) := by
              have h1 := Hcol.out
              have h2 := Hrow.out
              subst h1; subst h2
              exact epAt_yes hx hmc hhr
            clear hx hmc hhr
            go_wp2_with (at_builtin; refine wpList_append_own _ rfl (.tmp 50) (.tmp 57) 67 rfl w1.heap.size 25 i0 (bar2 0 0) 2 16 Try.underlying67 hi hz0 hz1 hz2 rfl (by decide) _ _ _ rfl (hown.alloc _) ⟨wr.heap.size, 0, none⟩ 1 1 [.int .i64 t, .int .i64 (H / row : Nat)] rfl rfl ?c1 ?c2 ?c3 ?c4 ?c5 ?_)
            case c1 => exact new2 _ _ _ _
            case c2 => exact two_oneCell _ _ _ _
            case c3 => simp only [maxLen]; omega
            case c4 => omega
            case c5 => simp; omega
            · intro v' w2 hown' hgrow _
              have hb2 := bgrow (hBel.alloc sB (.cells #[.int .i64 t, .int .i64 (H / row : Nat)] 25)) (hown.alloc _) hgrow (by simp; omega)
              obtain ⟨A', c', rfl⟩ := own_slice hown'
              clear hgrow hown hBel d0 d1
              go_wp2
              go_roundw
              case rel => exact ⟨t + 1, A', n + 1, c', by omega, by omega, by go_num, rfl, by rw [show t + 1 - 1 = t by omega, epTo_step X H m t ht, HY.out, pairCells_append]; exact hown', hb2⟩
              case measure => simp [intOf]; omega
          · have hh3 := mod_ne' hhr
            have HY : Hid (epAt X H m t = []) := by
              have h1 := Hcol.out
              have h2 := Hrow.out
              subst h1; subst h2
              exact epAt_no3 hhr
            clear hx hmc hhr
            go_wp2
            go_roundw
            case rel => exact ⟨t + 1, A, n, c, by omega, by omega, by go_num, rfl, by rw [show t + 1 - 1 = t by omega, epTo_step X H m t ht, HY.out, List.append_nil]; exact hown, hBel⟩
            case measure => simp [intOf]; omega
        · have hm3 := mod_ne hmc
          have HY : Hid (epAt X H m t = []) := by
            have h1 := Hcol.out
            subst h1
            exact epAt_no2 hmc
          clear hx hmc
          go_wp2
          go_roundw
          case rel => exact ⟨t + 1, A, n, c, by omega, by omega, by go_num, rfl, by rw [show t + 1 - 1 = t by omega, epTo_step X H m t ht, HY.out, List.append_nil]; exact hown, hBel⟩
          case measure => simp [intOf]; omega
      · have hx2 := mod_ne hx
        have HY : Hid (epAt X H m t = []) := epAt_no1 hx
        clear hx
        go_wp2
        go_roundw
        case rel => exact ⟨t + 1, A, n, c, by omega, by omega, by go_num, rfl, by rw [show t + 1 - 1 = t by omega, epTo_step X H m t ht, HY.out, List.append_nil]; exact hown, hBel⟩
        case measure => simp [intOf]; omega
    · go_wp2
      go_ret2
      have : t = X + 1 := by omega
      subst this
      exact ⟨A, n, c, rfl, own_base hown (by omega), by (repeat (first | (with_reducible exact Below.refl _ _) | (with_reducible assumption) | (with_reducible refine Below.drew ?_) | (with_reducible refine balloc ?_ _ ?_; · (first | (simp; done) | (simp; omega) | omega)) | (with_reducible refine bset ?_ _ ?_; · (first | (simp; done) | (simp; omega) | omega)) | (with_reducible refine bdrewN _ ?_) | (with_reducible refine bcall ?_ (by assumption) ?_; · (first | (simp; done) | (simp; omega) | omega))))⟩

end Go.Proofs.Ytjaddijhijnlnaa
