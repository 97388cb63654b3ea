/-
  Contract: EqualParts of the model.
-/
import Derived.Test.YtjaddijhijnlnaaEqualParts
import Derived.Deep.QuietTactic
import Derived.BigQuiet
namespace Go.Proofs.Ytjaddijhijnlnaa
open Go.RowKit

set_option maxRecDepth 100000 in
set_option maxHeartbeats 2000000 in
theorem sEqualParts_yes (X H m : Nat) (w : World) (hX : 1 ≤ X) (hX2 : X ≤ 12) (hH : 1 ≤ H) (hH2 : H ≤ 12) (hm : 1 ≤ m) (hm2 : m ≤ 144) :
    Calls Try.prog 61 #[bar2 X H, .int .i64 m] w fun e w' => ∃ A n c, e = .returned (.tuple #[.slice A n c, .bool true]) ∧ w'.ownsRow w.heap.size 25 2 (.slice A n c) n (pairCells (epV X H m)) ∧ Below w.heap.size w w' := by
  have hB : barB X H = true := by simp [barB]; omega
  obtain ⟨i0, hi, hz0, hz1, hz2⟩ := info_parts bar_info
  have tB : inB m 1 144 = true := by simp [inB]; omega
  go_enter Try.func61, Try.ntmps61
  go_wp2_with fail
  refine (brGood_any _ _ _).mono ?_; rintro e w1 ⟨rfl, hb1⟩; have s1 := hb1.size; obtain ⟨hc1, hf1⟩ := bcell hb1; have z1_w0 : w.heap.size < w1.heap.size := (by have q := s1; first | omega | (simp at q; omega))
  have c0 : w1.cell? ⟨w.heap.size, 0, none⟩ = some (.int .i64 X) := by rw [hc1 _ _ (by simp)]; simp [go_sem]
  have c1 : w1.cell? ⟨w.heap.size, 1, none⟩ = some (.int .i64 H) := by rw [hc1 _ _ (by simp)]; simp [go_sem]
  clear hc1 hf1
  go_wp2_with fail
  refine (l1In_any _ _ _ _).mono ?_; rintro e w2 ⟨rfl, rfl⟩
  go_wp2
  go_loopw [6, 7] (fun v i wr => ∃ (t : Nat) (A : Option Addr) (n c : Nat), 1 ≤ t ∧ t ≤ X + 1 ∧ i = .int .i64 t ∧ v = .slice A n c ∧ wr.ownsRow w1.heap.size 25 2 (.slice A n c) n (pairCells (epTo X H m (t - 1))) ∧ Below w1.heap.size w1 wr) (fun _ i _ => X + 1 - (intOf i).toNat)
  case atStart => exact ⟨1, none, 0, 0, by omega, by omega, rfl, rfl, World.ownsRow_nil _ _ _ _, Below.refl _ _⟩
  case round =>
    obtain ⟨t, A, n, c, ht, ht2, rfl, rfl, hown, hBel⟩ := hrel
    have d0 : wr.cell? ⟨w.heap.size, 0, none⟩ = some (.int .i64 X) := (hBel.cell (p := ⟨w.heap.size, 0, none⟩) z1_w0).trans c0
    have d1 : wr.cell? ⟨w.heap.size, 1, none⟩ = some (.int .i64 H) := (hBel.cell (p := ⟨w.heap.size, 1, none⟩) z1_w0).trans c1
    have tne : ((t : Int) == 0) = false := by simp; omega
    obtain ⟨wo, rfl⟩ : ∃ wo : World, wo = wr := ⟨_, rfl⟩
    by_cases hlt : t ≤ X
    · go_wp2
      go_loopw [6, 8] (fun v i wq => ∃ (h : Nat) (A : Option Addr) (n c : Nat), 1 ≤ h ∧ h ≤ H + 1 ∧ i = .int .i64 h ∧ v = .slice A n c ∧ wq.ownsRow w1.heap.size 25 2 (.slice A n c) n (pairCells (epTo X H m (t - 1) ++ inTo X H m t (h - 1))) ∧ Below w1.heap.size w1 wq) (fun _ i _ => H + 1 - (intOf i).toNat)
      case atStart => exact ⟨1, A, n, c, by omega, by omega, rfl, rfl, by simpa [inTo] using hown, hBel⟩
      case round =>
        clear d0 d1 hown hBel
        obtain ⟨h, A', n', c', hh, hh2, rfl, rfl, hown, hBel⟩ := hrel
        have d0 : wr.cell? ⟨w.heap.size, 0, none⟩ = some (.int .i64 X) := (hBel.cell (p := ⟨w.heap.size, 0, none⟩) z1_w0).trans c0
        have d1 : wr.cell? ⟨w.heap.size, 1, none⟩ = some (.int .i64 H) := (hBel.cell (p := ⟨w.heap.size, 1, none⟩) z1_w0).trans c1
        have hne : ((h : Int) == 0) = false := by simp; omega
        by_cases hlh : h ≤ H
        · by_cases hx : X % t = 0
          · have hx2 := mod_eq' hx
            by_cases hhh : H % h = 0
            · have hh3 := mod_eq' hhh
              have q1 := wdiv X t (by omega)
              have q2 := wdiv H h (by omega)
              have pm := wdivmul X t H h m (by omega) (by omega)
              have hn : n' ≤ 24 := by have h1 := hown.1; have h2 := length_epTo X H m (t - 1); have h3 := length_inTo X H m t (h - 1); rw [length_pairCells, List.length_append] at h1; omega
              have sB := hBel.size
              by_cases hp : X / t * (H / h) = m
              · have HY : Hid (inAt X H m t h = [((t : Int), (h : Int))]) := by simp [Hid, inAt, hx, hhh, hp]
                rw [decide_eq_true hp] at pm
                clear hx hhh hp
                go_wp2
                go_quiet (fail)
                have hown2 : (wr.drewN nq).ownsRow w1.heap.size 25 2 (.slice A' n' c') n' _ := hown
                have hBel2 : Below w1.heap.size w1 (wr.drewN nq) := bdrewN _ hBel
                have sB2 := hBel2.size
                generalize wr.drewN nq = wq at hown2 hBel2 sB2 ⊢
                clear hown hBel d0 d1
                go_wp2_with (at_builtin; refine wpList_append_own _ rfl (.tmp 54) (.tmp 58) 67 rfl w1.heap.size 25 i0 (bar2 0 0) 2 16 Try.underlying67 hi hz0 hz1 hz2 rfl (by decide) _ _ _ rfl (hown2.alloc _) ⟨wq.heap.size, 0, none⟩ 1 1 [.int .i64 t, .int .i64 h] rfl rfl ?c1 ?c2 ?c3 ?c4 ?c5 ?_)
                case c1 => exact new2 _ _ _ _
                case c2 => exact two_oneCell _ _ _ _
                case c3 => simp only [maxLen]; omega
                case c4 => omega
                case c5 => simp; omega
                · intro v' w2 hown' hgrow _
                  have hb2 := bgrow (hBel2.alloc sB2 (.cells #[.int .i64 t, .int .i64 h] 25)) (hown2.alloc _) hgrow (by simp; omega)
                  obtain ⟨A2, c2, rfl⟩ := own_slice hown'
                  clear hgrow hown2 hBel2
                  go_wp2
                  go_roundw
                  case rel => exact ⟨h + 1, A2, n' + 1, c2, by omega, by omega, by go_num, rfl, by rw [show h + 1 - 1 = h by omega, inTo_step X H m t h hh, HY.out, ← List.append_assoc, pairCells_append _ [_]]; exact hown', hb2⟩
                  case measure => simp [intOf]; omega
              · have HY : Hid (inAt X H m t h = []) := by simp [Hid, inAt, hp]
                rw [decide_eq_false hp] at pm
                clear hx hhh hp
                go_wp2
                go_quiet (fail)
                go_wp2
                go_roundw
                case rel => exact ⟨h + 1, A', n', c', by omega, by omega, by go_num, rfl, by rw [show h + 1 - 1 = h by omega, inTo_step X H m t h hh, HY.out, List.append_nil]; exact hown, by (repeat (first | (with_reducible exact Below.refl _ _) | (with_reducible assumption) | (with_reducible refine Below.drew ?_) | (with_reducible refine balloc ?_ _ ?_; · (first | (simp; done) | (simp; omega) | omega)) | (with_reducible refine bset ?_ _ ?_; · (first | (simp; done) | (simp; omega) | omega)) | (with_reducible refine bdrewN _ ?_) | (with_reducible refine bcall ?_ (by assumption) ?_; · (first | (simp; done) | (simp; omega) | omega))))⟩
                case measure => simp [intOf]; omega
            · have hh3 := mod_ne' hhh
              have HY : Hid (inAt X H m t h = []) := by simp [Hid, inAt, hhh]
              clear hx hhh
              go_wp2
              go_quiet (fail)
              go_wp2
              go_roundw
              case rel => exact ⟨h + 1, A', n', c', by omega, by omega, by go_num, rfl, by rw [show h + 1 - 1 = h by omega, inTo_step X H m t h hh, HY.out, List.append_nil]; exact hown, by (repeat (first | (with_reducible exact Below.refl _ _) | (with_reducible assumption) | (with_reducible refine Below.drew ?_) | (with_reducible refine balloc ?_ _ ?_; · (first | (simp; done) | (simp; omega) | omega)) | (with_reducible refine bset ?_ _ ?_; · (first | (simp; done) | (simp; omega) | omega)) | (with_reducible refine bdrewN _ ?_) | (with_reducible refine bcall ?_ (by assumption) ?_; · (first | (simp; done) | (simp; omega) | omega))))⟩
              case measure => simp [intOf]; omega
          · have hx2 := mod_ne' hx
            have HY : Hid (inAt X H m t h = []) := by simp [Hid, inAt, hx]
            clear hx
            go_wp2
            go_quiet (fail)
            go_wp2
            go_roundw
            case rel => exact ⟨h + 1, A', n', c', by omega, by omega, by go_num, rfl, by rw [show h + 1 - 1 = h by omega, inTo_step X H m t h hh, HY.out, List.append_nil]; exact hown, by (repeat (first | (with_reducible exact Below.refl _ _) | (with_reducible assumption) | (with_reducible refine Below.drew ?_) | (with_reducible refine balloc ?_ _ ?_; · (first | (simp; done) | (simp; omega) | omega)) | (with_reducible refine bset ?_ _ ?_; · (first | (simp; done) | (simp; omega) | omega)) | (with_reducible refine bdrewN _ ?_) | (with_reducible refine bcall ?_ (by assumption) ?_; · (first | (simp; done) | (simp; omega) | omega))))⟩
            case measure => simp [intOf]; omega
        · go_wp2
          go_roundw
          have : h = H + 1 := by omega
          subst this
          have HY := inTo_all X H m t ht hlt hH hm
          case rel => exact ⟨t + 1, A', n', c', by omega, by omega, by go_num, rfl, by rw [show t + 1 - 1 = t by omega, epTo_step X H m t ht, ← HY]; exact hown, hBel⟩
          case measure => simp [intOf]; omega
    · go_wp2
      go_ret2
      have : t = X + 1 := by omega
      subst this
      exact ⟨A, n, c, rfl, own_base hown (by omega), by (repeat (first | (with_reducible exact Below.refl _ _) | (with_reducible assumption) | (with_reducible refine Below.drew ?_) | (with_reducible refine balloc ?_ _ ?_; · (first | (simp; done) | (simp; omega) | omega)) | (with_reducible refine bset ?_ _ ?_; · (first | (simp; done) | (simp; omega) | omega)) | (with_reducible refine bdrewN _ ?_) | (with_reducible refine bcall ?_ (by assumption) ?_; · (first | (simp; done) | (simp; omega) | omega))))⟩

def epOk (x y m : Int) : Bool := barB x y && inB m 1 144
def epL (x y m : Int) : List (Int × Int) := if epOk x y m then epV x.toNat y.toNat m.toNat else []
theorem length_epL (x y m : Int) : (epL x y m).length ≤ 12 := by
  unfold epL
  split
  · rename_i h
    have h1 : barB x y = true := by simp [epOk] at h; exact h.1
    obtain ⟨_, x2, _, _⟩ := barB_true h1
    have := length_epTo x.toNat y.toNat m.toNat x.toNat
    unfold epV
    omega
  · simp

set_option maxHeartbeats 1000000 in
theorem equalParts_any (x y m : Int) (w : World) :
    Calls Try.prog 62 #[bar2 x y, .int .i64 m] w fun e w' => ∃ A n c, e = .returned (.tuple #[.slice A n c, .bool (epOk x y m)]) ∧ w'.ownsRow w.heap.size 25 2 (.slice A n c) n (pairCells (epL x y m)) ∧ Below w.heap.size w w' := by
  cases hB : barB x y
  · have hk : epOk x y m = false := by simp [epOk, hB]
    have hl : epL x y m = [] := by simp [epL, hk]
    rw [hk, hl]
    clear hk hl
    go_enter Try.func62, Try.ntmps62
    go_wp2_with fail
    refine (isBar_any _ _ _).mono ?_; rintro e w1 ⟨rfl, hb1⟩; have s1 := hb1.size; obtain ⟨hc1, hf1⟩ := bcell hb1; have z1_w0 : w.heap.size < w1.heap.size := (by have q := s1; first | omega | (simp at q; omega))
    go_wp2
    go_ret2
    exact ⟨none, 0, 0, rfl, World.ownsRow_nil _ _ _ _, by (repeat (first | (with_reducible exact Below.refl _ _) | (with_reducible assumption) | (with_reducible refine Below.drew ?_) | (with_reducible refine balloc ?_ _ ?_; · (first | (simp; done) | (simp; omega) | omega)) | (with_reducible refine bset ?_ _ ?_; · (first | (simp; done) | (simp; omega) | omega)) | (with_reducible refine bdrewN _ ?_) | (with_reducible refine bcall ?_ (by assumption) ?_; · (first | (simp; done) | (simp; omega) | omega))))⟩
  · cases hM : inB m 1 144
    · have hk : epOk x y m = false := by simp [epOk, hM]
      have hl : epL x y m = [] := by simp [epL, hk]
      rw [hk, hl]
      clear hk hl
      by_cases h1 : m < 1
      · go_enter Try.func62, Try.ntmps62
        go_wp2_with fail
        refine (isBar_any _ _ _).mono ?_; rintro e w1 ⟨rfl, hb1⟩; have s1 := hb1.size; obtain ⟨hc1, hf1⟩ := bcell hb1; have z1_w0 : w.heap.size < w1.heap.size := (by have q := s1; first | omega | (simp at q; omega))
        go_wp2
        go_ret2
        exact ⟨none, 0, 0, rfl, World.ownsRow_nil _ _ _ _, by (repeat (first | (with_reducible exact Below.refl _ _) | (with_reducible assumption) | (with_reducible refine Below.drew ?_) | (with_reducible refine balloc ?_ _ ?_; · (first | (simp; done) | (simp; omega) | omega)) | (with_reducible refine bset ?_ _ ?_; · (first | (simp; done) | (simp; omega) | omega)) | (with_reducible refine bdrewN _ ?_) | (with_reducible refine bcall ?_ (by assumption) ?_; · (first | (simp; done) | (simp; omega) | omega))))⟩
      · have h2 : 144 < m := by simp [inB] at hM; omega
        go_enter Try.func62, Try.ntmps62
        go_wp2_with fail
        refine (isBar_any _ _ _).mono ?_; rintro e w1 ⟨rfl, hb1⟩; have s1 := hb1.size; obtain ⟨hc1, hf1⟩ := bcell hb1; have z1_w0 : w.heap.size < w1.heap.size := (by have q := s1; first | omega | (simp at q; omega))
        go_wp2
        go_ret2
        exact ⟨none, 0, 0, rfl, World.ownsRow_nil _ _ _ _, by (repeat (first | (with_reducible exact Below.refl _ _) | (with_reducible assumption) | (with_reducible refine Below.drew ?_) | (with_reducible refine balloc ?_ _ ?_; · (first | (simp; done) | (simp; omega) | omega)) | (with_reducible refine bset ?_ _ ?_; · (first | (simp; done) | (simp; omega) | omega)) | (with_reducible refine bdrewN _ ?_) | (with_reducible refine bcall ?_ (by assumption) ?_; · (first | (simp; done) | (simp; omega) | omega))))⟩
    · have hk : epOk x y m = true := by simp [epOk, hB, hM]
      have hl : epL x y m = epV x.toNat y.toNat m.toNat := by simp [epL, hk]
      rw [hk, hl]
      obtain ⟨x1, x2, y1, y2⟩ := barB_true hB
      have hM2 : 1 ≤ m ∧ m ≤ 144 := by simpa [inB] using hM
      obtain ⟨X, rfl⟩ := Int.eq_ofNat_of_zero_le (show 0 ≤ x by omega)
      obtain ⟨Y, rfl⟩ := Int.eq_ofNat_of_zero_le (show 0 ≤ y by omega)
      obtain ⟨M, rfl⟩ := Int.eq_ofNat_of_zero_le (show 0 ≤ m by omega)
      simp only [Int.toNat_natCast]
      exact equalParts_yes X Y M w (by omega) (by omega) (by omega) (by omega) (by omega) (by omega)

set_option maxHeartbeats 1000000 in
theorem sEqualParts_any (x y m : Int) (w : World) :
    Calls Try.prog 61 #[bar2 x y, .int .i64 m] w fun e w' => ∃ A n c, e = .returned (.tuple #[.slice A n c, .bool (epOk x y m)]) ∧ w'.ownsRow w.heap.size 25 2 (.slice A n c) n (pairCells (epL x y m)) ∧ Below w.heap.size w w' := by
  cases hB : barB x y
  · have hk : epOk x y m = false := by simp [epOk, hB]
    have hl : epL x y m = [] := by simp [epL, hk]
    rw [hk, hl]
    clear hk hl
    go_enter Try.func61, Try.ntmps61
    go_wp2_with fail
    refine (brGood_any _ _ _).mono ?_; rintro e w1 ⟨rfl, hb1⟩; have s1 := hb1.size; obtain ⟨hc1, hf1⟩ := bcell hb1; have z1_w0 : w.heap.size < w1.heap.size := (by have q := s1; first | omega | (simp at q; omega))
    go_wp2
    go_ret2
    exact ⟨none, 0, 0, rfl, World.ownsRow_nil _ _ _ _, by (repeat (first | (with_reducible exact Below.refl _ _) | (with_reducible assumption) | (with_reducible refine Below.drew ?_) | (with_reducible refine balloc ?_ _ ?_; · (first | (simp; done) | (simp; omega) | omega)) | (with_reducible refine bset ?_ _ ?_; · (first | (simp; done) | (simp; omega) | omega)) | (with_reducible refine bdrewN _ ?_) | (with_reducible refine bcall ?_ (by assumption) ?_; · (first | (simp; done) | (simp; omega) | omega))))⟩
  · cases hM : inB m 1 144
    · have hk : epOk x y m = false := by simp [epOk, hM]
      have hl : epL x y m = [] := by simp [epL, hk]
      rw [hk, hl]
      clear hk hl
      go_enter Try.func61, Try.ntmps61
      go_wp2_with fail
      refine (brGood_any _ _ _).mono ?_; rintro e w1 ⟨rfl, hb1⟩; have s1 := hb1.size; obtain ⟨hc1, hf1⟩ := bcell hb1; have z1_w0 : w.heap.size < w1.heap.size := (by have q := s1; first | omega | (simp at q; omega))
      go_wp2_with fail
      refine (l1In_any _ _ _ _).mono ?_; rintro e w2 ⟨rfl, rfl⟩
      go_wp2
      go_ret2
      exact ⟨none, 0, 0, rfl, World.ownsRow_nil _ _ _ _, by (repeat (first | (with_reducible exact Below.refl _ _) | (with_reducible assumption) | (with_reducible refine Below.drew ?_) | (with_reducible refine balloc ?_ _ ?_; · (first | (simp; done) | (simp; omega) | omega)) | (with_reducible refine bset ?_ _ ?_; · (first | (simp; done) | (simp; omega) | omega)) | (with_reducible refine bdrewN _ ?_) | (with_reducible refine bcall ?_ (by assumption) ?_; · (first | (simp; done) | (simp; omega) | omega))))⟩
    · have hk : epOk x y m = true := by simp [epOk, hB, hM]
      have hl : epL x y m = epV x.toNat y.toNat m.toNat := by simp [epL, hk]
      rw [hk, hl]
      obtain ⟨x1, x2, y1, y2⟩ := barB_true hB
      have hM2 : 1 ≤ m ∧ m ≤ 144 := by simpa [inB] using hM
      obtain ⟨X, rfl⟩ := Int.eq_ofNat_of_zero_le (show 0 ≤ x by omega)
      obtain ⟨Y, rfl⟩ := Int.eq_ofNat_of_zero_le (show 0 ≤ y by omega)
      obtain ⟨M, rfl⟩ := Int.eq_ofNat_of_zero_le (show 0 ≤ m by omega)
      simp only [Int.toNat_natCast]
      exact sEqualParts_yes X Y M w (by omega) (by omega) (by omega) (by omega) (by omega) (by omega)

end Go.Proofs.Ytjaddijhijnlnaa
