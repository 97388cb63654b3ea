/-
  The first strips, of numbers; contract: FirstStrips of the model.
-/
import Derived.Test.YtbjjpndhfgfedaaPoor
namespace Go.Proofs.Ytbjjpndhfgfedaa
open Go.RowKit

/-- the first of 1 .. m at which f is at least P -/
def hitK (f : Nat → Int) (P : Int) : Nat → Option Nat
  | 0 => none
  | m + 1 => match hitK f P m with
    | some k => some k
    | none => if P ≤ f (m + 1) then some (m + 1) else none
theorem hitK_none {f : Nat → Int} {P : Int} {m : Nat} (h : ∀ j, 1 ≤ j → j ≤ m → f j < P) : hitK f P m = none := by
  induction m with
  | zero => rfl
  | succ m ih =>
    have h1 := ih fun j a b => h j a (by omega)
    have h2 := h (m + 1) (by omega) (Nat.le_refl _)
    simp only [hitK, h1]
    rw [if_neg (by omega)]
theorem hitK_eq {f : Nat → Int} {P : Int} {m k : Nat} (h1 : 1 ≤ k) (hm : k ≤ m) (hp : P ≤ f k) (h : ∀ j, 1 ≤ j → j < k → f j < P) : hitK f P m = some k := by
  induction m with
  | zero => omega
  | succ m ih =>
    by_cases hk : k ≤ m
    · simp only [hitK, ih hk]
    · have e : k = m + 1 := by omega
      subst e
      have h0 := hitK_none (m := m) fun j a b => h j a (by omega)
      simp only [hitK, h0]
      rw [if_pos hp]
theorem maxTo_hit {f : Nat → Int} {P : Int} {m : Nat} (h1 : 1 ≤ m) (h0 : ∀ k, 0 ≤ f k) (hp : P ≤ maxTo f m) : ∃ k, 1 ≤ k ∧ k ≤ m ∧ P ≤ f k := by
  induction m with
  | zero => omega
  | succ m ih =>
    by_cases hm : P ≤ f (m + 1)
    · exact ⟨m + 1, by omega, Nat.le_refl _, hm⟩
    · have h2 : P ≤ maxTo f m := by
        simp only [maxTo, imax] at hp
        split at hp <;> omega
      cases m with
      | zero =>
        have := h0 (0 + 1)
        simp only [maxTo] at h2
        omega
      | succ m =>
        obtain ⟨k, a, b, c⟩ := ih (by omega) h2
        exact ⟨k, a, by omega, c⟩
/-- the widths of the first strips of s + 1 sharers, none of which has less than P -/
def firstsL : Nat → List Int → Int → List Int
  | 0, L, _ => [(L.length : Int)]
  | s + 1, L, P => (((hitK (pFirst s L) P (L.length - (s + 1))).getD 0 : Nat) : Int) :: firstsL s (L.drop ((hitK (pFirst s L) P (L.length - (s + 1))).getD 0)) P
theorem firsts_step {s k : Nat} {L : List Int} {P : Int} (h1 : 1 ≤ k) (hm : k + (s + 1) ≤ L.length) (hp : P ≤ pFirst s L k) (h : ∀ j, 1 ≤ j → j < k → pFirst s L j < P) :
    firstsL (s + 1) L P = (k : Int) :: firstsL s (L.drop k) P := by
  have e := hitK_eq (m := L.length - (s + 1)) h1 (by omega) hp h
  simp only [firstsL, e, Option.getD_some]
theorem firsts_hit {s : Nat} {L : List Int} {P : Int} (hs : Small L) (hl : s + 2 ≤ L.length) (hp : P ≤ pStrip (s + 1) L) : ∃ k, 1 ≤ k ∧ k + (s + 1) ≤ L.length ∧ P ≤ pFirst s L k := by
  obtain ⟨k, a, b, c⟩ := maxTo_hit (f := pFirst s L) (m := L.length - (s + 1)) (by omega) (fun k => pFirst_nonneg hs) hp
  exact ⟨k, a, by omega, c⟩
theorem pass_on {s k : Nat} {L : List Int} {P : Int} (h : P ≤ pFirst s L k) : P ≤ pStrip s (L.drop k) := by
  unfold pFirst imin at h
  split at h <;> omega
theorem length_firsts (s : Nat) (L : List Int) (P : Int) : (firstsL s L P).length = s + 1 := by
  induction s generalizing L with
  | zero => rfl
  | succ s ih => simp only [firstsL, List.length_cons, ih]
def firstR (ss : List ByteArray) (t : Int) : List Int := if poorOk ss t then firstsL (t - 1).toNat (linesL ss (nutW ss) ss.length true) (pStrip (t - 1).toNat (linesL ss (nutW ss) ss.length true)) else []
theorem firstR_no {ss : List ByteArray} {t : Int} (h : poorOk ss t = false) : firstR ss t = [] := by simp [firstR, h]
theorem firstR_yes {ss : List ByteArray} {t : Int} {n : Nat} (h : poorOk ss t = true) (hl : ss.length = n) : firstR ss t = firstsL (t - 1).toNat (linesL ss (nutW ss) n true) (pStrip (t - 1).toNat (linesL ss (nutW ss) n true)) := by rw [firstR, h, hl]; rfl
theorem length_firstR (ss : List ByteArray) (t : Int) : (firstR ss t).length ≤ 8 := by
  cases h : poorOk ss t
  · rw [firstR_no h]; exact Nat.zero_le _
  · rw [firstR_yes h rfl, length_firsts]
    have h2 : shareB t (nutW ss) = true := by simp [poorOk] at h; exact h.2
    have := share_bounds h2
    omega

set_option maxRecDepth 100000 in
set_option maxHeartbeats 4000000 in
theorem sFirstStrips_any (A : Option Addr) (n c : Nat) (ss : List ByteArray) (t : Int) (w : World) (hr : Rd w 1 A n (strCells ss)) :
    Calls Try.prog 46 #[.slice A n c, .int .i64 t] w fun e w' => ∃ A' n' c', e = .returned (.tuple #[.slice A' n' c', .bool (poorOk ss t)]) ∧ w'.ownsRow w.heap.size 3 1 (.slice A' n' c') n' (intCells (firstR ss t)) ∧ Below w.heap.size w w' := by
  cases hB : nutsB ss
  · have hk : poorOk ss t = false := by simp [poorOk, hB]
    rw [firstR_no hk, hk]
    clear hk
    go_enter Try.func46, Try.ntmps46
    go_wp2_with fail
    refine (ntGood_any _ _ _ _ _ hr).mono ?_; rintro e w1 ⟨rfl, rfl⟩
    rw [hB]
    go_wp2
    go_ret2
    exact ⟨none, 0, 0, rfl, World.ownsRow_nil _ _ _ _, Below.refl _ _⟩
  · have hb := NB.of hB
    have hl := hr.slen
    rw [hl] at hb
    cases hS : shareB t (nutW ss)
    · have hk : poorOk ss t = false := by simp [poorOk, hS]
      rw [firstR_no hk, hk]
      clear hk hl
      generalize nutW ss = W at *
      obtain ⟨b, o, rfl, hbl, s0, p0, hs0, _⟩ := hr.nut0 hb
      have hs := hs0.out
      subst hs
      have hn1 := hb.h1
      go_enter Try.func46, Try.ntmps46
      go_wp2_with fail
      refine (ntGood_any _ _ _ _ _ hr).mono ?_; rintro e w1 ⟨rfl, rfl⟩
      rw [hB]
      go_wp2_with fail
      refine (ntSharers_any _ _ _ ss _ _ _ hr).mono ?_; rintro e w1 ⟨rfl, rfl⟩
      rw [hB, hS]
      go_wp2
      go_ret2
      exact ⟨none, 0, 0, rfl, World.ownsRow_nil _ _ _ _, Below.refl _ _⟩
    · obtain ⟨hk, _⟩ := poor_some hB hl hS
      rw [firstR_yes hk hl, hk]
      clear hk hl
      obtain ⟨b1, b2, b3⟩ := share_bounds hS
      obtain ⟨s0n, hts⟩ : ∃ s0n : Nat, (t - 1).toNat = s0n := ⟨_, rfl⟩
      rw [hts]
      have hst := fun (A : Option Addr) (w : World) => ntStrip_any s0n A n c (nutW ss) ss 0 t 0 w
      have hsv : stripV s0n ((linesL ss (nutW ss) n true).drop 0) = pStrip s0n (linesL ss (nutW ss) n true) := by
        unfold stripV
        rw [List.drop_zero, length_linesL, if_neg (by simp; omega)]
      simp only [hsv] at hst
      have HST := Lib.hid hst
      clear hst hsv
      have HSM := Lib.hid (lines_small hb true)
      have HP0 : Hid (∃ P, P = pStrip s0n (linesL ss (nutW ss) n true)) := ⟨_, rfl⟩
      obtain ⟨P, hP⟩ := HP0.out
      rw [← hP] at HST ⊢
      obtain ⟨R, hR⟩ : ∃ R, R = firstsL s0n (linesL ss (nutW ss) n true) P := ⟨_, rfl⟩
      rw [← hR]
      have HR := Lib.hid hR
      have HP := Lib.hid hP
      clear hP hR HP0
      generalize nutW ss = W at *
      obtain ⟨i0, hi, hz0, hz1, hz2⟩ := info_parts int_info
      obtain ⟨b, o, rfl, hbl, s0, p0, hs0, _⟩ := hr.nut0 hb
      have hs := hs0.out
      subst hs
      have hn1 := hb.h1
      have hW8 := hb.w8
      go_enter Try.func46, Try.ntmps46
      go_wp2_with fail
      refine (ntGood_any _ _ _ _ _ hr).mono ?_; rintro e w1 ⟨rfl, rfl⟩
      rw [hB]
      go_wp2_with fail
      refine (ntSharers_any _ _ _ ss _ _ _ hr).mono ?_; rintro e w1 ⟨rfl, rfl⟩
      rw [hB, hS]
      go_wp2_with fail
      refine (HST.out _ _ hr hb rfl (by omega) (by omega) (by omega)).mono ?_; rintro e w1 ⟨rfl, rfl⟩
      go_wp2
      clear HST
      go_loopw [7, 8, 9, 10] (fun v f lf _ wr => ∃ (s f' x : Nat) (pre : List Int) (A' : Option Addr) (c' : Nat), lf = .int .i64 s ∧ f = .int .i64 f' ∧ f' + (s + 1) ≤ s0.size ∧ v = .slice A' x c' ∧ wr.ownsRow w.heap.size 3 1 (.slice A' x c') x (intCells pre) ∧ x + s ≤ 8 ∧ Hid (P ≤ pStrip s ((linesL ss s0.size n true).drop f')) ∧ Hid (pre ++ firstsL s ((linesL ss s0.size n true).drop f') P = R) ∧ Below w.heap.size w wr) (fun _ _ lf _ _ => (intOf lf).toNat)
      case atStart =>
        exact ⟨s0n, 0, 0, [], none, 0, by go_num, rfl, by omega, rfl, World.ownsRow_nil _ _ _ _, by omega, (by rw [List.drop_zero]; exact Int.le_of_eq HP.out), (by rw [List.drop_zero]; exact HR.out.symm), Below.refl _ _⟩
      case round =>
        obtain ⟨s, f', x, pre, A', c', rfl, rfl, hfW, rfl, hown, hxs, HPS, HRS, hBl⟩ := hrel
        have sB := hBl.size
        have pr := (hBl.cell (p := ⟨b, o, none⟩) hbl).trans p0
        cases s with
        | zero =>
          have HE : Hid (pre ++ [((s0.size : Int) - f')] = R) := by
            have h := HRS.out
            simp only [firstsL, List.length_drop, length_linesL] at h
            simp only [Hid]
            rw [← h]
            congr 2
            simp
            omega
          have hc3 : x + 1 ≤ maxLen := by simp only [maxLen]; omega
          clear HRS HPS HP HR
          go_wp2_with (at_builtin; refine wpList_append_own _ rfl (.tmp 66) (.tmp 73) 29 rfl w.heap.size 3 i0 (.int .i64 0) 1 8 Try.underlying29 hi hz0 hz1 hz2 rfl (by decide) _ _ _ rfl (hown.alloc _) ⟨wr.heap.size, 0, none⟩ 1 1 [.int .i64 ((s0.size : Int) - f')] rfl rfl (new1 _ _ _) (int_oneCell [(s0.size : Int) - f']) hc3 (by omega) (Nat.le_trans sB (by simp)) ?_)
          intro v' w2 hown' hgrow _
          have hb2 := gb_new (Nat.le_refl _) (hBl.alloc sB _) hgrow (fun g hg => (hown.lt g hg).1)
          obtain ⟨A2, c2, rfl⟩ := own_slice hown'
          clear hgrow hown hBl hc3
          go_wp2
          go_ret2
          exact ⟨A2, x + 1, c2, rfl, by rw [← HE.out, intCells_append]; exact hown', hb2⟩
        | succ s =>
          have hsd : Small ((linesL ss s0.size n true).drop f') := Small.drop HSM.out f'
          have hL : ((linesL ss s0.size n true).drop f').length = s0.size - f' := by rw [List.length_drop, length_linesL]; simp
          obtain ⟨k0, hk1, hk2, hk3⟩ := firsts_hit hsd (by rw [hL]; omega) HPS.out
          rw [hL] at hk2
          have HK3 := Lib.hid hk3
          have HL := Lib.hid hL
          have hsc : ((s + 1 : Nat) : Int) = (s : Int) + 1 := by omega
          clear hk3 hL hsd
          rw [hsc]
          clear hsc
          go_wp2
          go_loop [7, 8, 10] (fun v f i => ∃ k : Nat, 1 ≤ k ∧ k ≤ k0 ∧ v = .slice A' x c' ∧ f = .int .i64 f' ∧ i = .int .i64 ((f' : Int) + k) ∧ Hid (∀ j, 1 ≤ j → j < k → pFirst s ((linesL ss s0.size n true).drop f') j < P)) (fun _ _ i => s0.size + 1 - (intOf i).toNat)
          case atStart => exact ⟨1, Nat.le_refl _, hk1, rfl, rfl, by go_num, (fun j a b => by omega)⟩
          case round =>
            obtain ⟨k, hk1', hkk, rfl, rfl, rfl, HLT⟩ := hrel
            have hcs := colsum (ss := ss) (W := s0.size) (n := n) (f := f') k (by omega)
            have hdd : ((linesL ss s0.size n true).drop f').drop k = (linesL ss s0.size n true).drop (f' + k) := by rw [List.drop_drop]
            have hst : stripV s ((linesL ss s0.size n true).drop (f' + k)) = pStrip s (((linesL ss s0.size n true).drop f').drop k) := by
              rw [← hdd]
              unfold stripV
              rw [List.length_drop, HL.out, if_neg (by omega)]
            have hF : pFirst s ((linesL ss s0.size n true).drop f') k = imin (rect ss f' 0 k n : Nat) (pStrip s (((linesL ss s0.size n true).drop f').drop k)) := by
              rw [← hcs]; rfl
            have hnext : pFirst s ((linesL ss s0.size n true).drop f') k < P → k + 1 ≤ k0 ∧ ∀ j, 1 ≤ j → j < k + 1 → pFirst s ((linesL ss s0.size n true).drop f') j < P := by
              intro h
              refine ⟨?_, fun j a b => ?_⟩
              · rcases Nat.lt_or_ge k k0 with h2 | h2
                · omega
                · have e : k = k0 := by omega
                  have := HK3.out
                  rw [← e] at this
                  omega
              · rcases Nat.lt_or_ge j k with h2 | h2
                · exact HLT.out j a h2
                · have e : j = k := by omega
                  rw [e]; exact h
            have hdone : P ≤ pFirst s ((linesL ss s0.size n true).drop f') k → firstsL (s + 1) ((linesL ss s0.size n true).drop f') P = (k : Int) :: firstsL s (((linesL ss s0.size n true).drop f').drop k) P :=
              fun h => firsts_step hk1' (by rw [HL.out]; omega) h HLT.out
            rw [hdd] at hF hdone hst
            rw [hF] at hnext hdone
            have HPASS : Hid (P ≤ imin (rect ss f' 0 k n : Nat) (pStrip s ((linesL ss s0.size n true).drop (f' + k))) → P ≤ pStrip s ((linesL ss s0.size n true).drop (f' + k))) := by
              intro h; unfold imin at h; split at h <;> omega
            have HNT := Lib.hid (fun (wx : World) (f t : Int) (hr : Rd wx 1 (some ⟨b, o, none⟩) n (strCells ss)) (h1 : f = ((f' + k : Nat) : Int)) (h2 : t = (s : Int) + 1) => ntStrip_any s (some ⟨b, o, none⟩) n c s0.size ss f t (f' + k) wx hr hb h1 (by omega) h2 (by omega))
            simp only [hst] at HNT
            clear hcs hdd hst hF
            have HSU := Lib.hid (fun (wx : World) (hr : Rd wx 1 (some ⟨b, o, none⟩) n (strCells ss)) => ntSum_any (some ⟨b, o, none⟩) n c s0.size ss (f' : Int) 0 ((f' : Int) + k) n f' 0 k n wx hr hb rfl rfl (by omega) (by omega) (by omega) (by omega))
            generalize hq1 : pStrip s ((linesL ss s0.size n true).drop (f' + k)) = q at *
            generalize hq2 : ((rect ss f' 0 k n : Nat) : Int) = a at *
            have HQ := Lib.hid hq1
            clear hq1 hq2
            by_cases h1 : a < P
            · obtain ⟨hk', hlt'⟩ := hnext (by unfold imin; split <;> omega)
              have HLT' := Lib.hid hlt'
              clear hlt' hnext hdone
              go_wp2_with fail
              refine (HSU.out _ (hr.later hBl (Nat.le_refl _))).mono ?_; rintro e wy ⟨rfl, rfl⟩
              go_wp2
              go_round
              case rel => exact ⟨k + 1, by omega, hk', rfl, rfl, by go_num, HLT'⟩
              case measure => simp [intOf]; omega
            · by_cases h2 : q < P
              · obtain ⟨hk', hlt'⟩ := hnext (by unfold imin; split <;> omega)
                have HLT' := Lib.hid hlt'
                clear hlt' hnext hdone
                go_wp2_with fail
                refine (HSU.out _ (hr.later hBl (Nat.le_refl _))).mono ?_; rintro e wy ⟨rfl, rfl⟩
                go_wp2_with fail
                refine (HNT.out _ _ _ (hr.later hBl (Nat.le_refl _)) (by omega) (by omega)).mono ?_; rintro e wy ⟨rfl, rfl⟩
                go_wp2
                go_round
                case rel => exact ⟨k + 1, by omega, hk', rfl, rfl, by go_num, HLT'⟩
                case measure => simp [intOf]; omega
              · have HPQ : Hid (P ≤ pStrip s ((linesL ss s0.size n true).drop (f' + k))) := by
                  simp only [Hid]; rw [HQ.out]; omega
                have HRR : Hid ((pre ++ [(k : Int)]) ++ firstsL s ((linesL ss s0.size n true).drop (f' + k)) P = R) := by
                  have e := hdone (by unfold imin; split <;> omega)
                  have h := HRS.out
                  rw [e] at h
                  simp only [Hid]
                  rw [← h]
                  simp
                clear hnext hdone
                have hc3 : x + 1 ≤ maxLen := by simp only [maxLen]; omega
                go_wp2_with fail
                refine (HSU.out _ (hr.later hBl (Nat.le_refl _))).mono ?_; rintro e wy ⟨rfl, rfl⟩
                go_wp2_with fail
                refine (HNT.out _ _ _ (hr.later hBl (Nat.le_refl _)) (by omega) (by omega)).mono ?_; rintro e wy ⟨rfl, rfl⟩
                go_wp2_with (at_builtin; refine wpList_append_own _ rfl (.tmp 59) (.tmp 63) 29 rfl w.heap.size 3 i0 (.int .i64 0) 1 8 Try.underlying29 hi hz0 hz1 hz2 rfl (by decide) _ _ _ rfl (hown.alloc _) ⟨wr.heap.size, 0, none⟩ 1 1 [_] rfl rfl (new1 _ _ _) (int_oneCell [_]) hc3 (by omega) (Nat.le_trans sB (by simp)) ?_)
                intro v' w2 hown' hgrow _
                have hb2 := gb_new (Nat.le_refl _) (hBl.alloc sB _) hgrow (fun g hg => (hown.lt g hg).1)
                obtain ⟨A2, c2, rfl⟩ := own_slice hown'
                clear hgrow hown hBl hc3
                go_wp2
                go_roundw
                case rel =>
                  refine ⟨s, f' + k, x + 1, pre ++ [(k : Int)], A2, c2, by go_num, by go_num, by omega, rfl, ?_, by omega, HPQ, HRR, hb2⟩
                  rw [intCells_append]
                  first | exact hown' | (have e : (f' : Int) + k - f' = k := (by omega); rw [e] at hown'; exact hown')
                case measure => first | (simp [intOf]; done) | (simp [intOf]; omega)

end Go.Proofs.Ytbjjpndhfgfedaa
