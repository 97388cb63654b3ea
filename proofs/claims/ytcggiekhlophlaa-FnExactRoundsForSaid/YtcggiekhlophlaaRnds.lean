/-
  Contracts: RoundsFor of the program and of the model. Conditions: none.
-/
import Derived.Test.YtcggiekhlophlaaRndsC
namespace Go.Proofs.Ytcggiekhlophlaa
open Go.RowKit
set_option linter.unusedVariables false
set_option linter.unusedSimpArgs false

set_option maxRecDepth 100000 in
set_option maxHeartbeats 2000000 in
theorem rounds_any (p t : Int) (w : World) :
    Calls Try.prog 18 #[.int .i64 p, .int .i64 t] w fun e w' => e = .returned (.tuple #[.int .i64 (rfN p t), .bool (tfOk p t)]) ∧ Below w.heap.size w w' := by
  refine tfOk_cases p t (fun h1 h => ?_) (fun h1 h2 h => ?_) (fun h1 h2 h => ?_)
  case refine_3 =>
    obtain ⟨P, T, rfl, rfl, p1, p2, t1, t2⟩ := tfOk_nat h
    rw [rfN_yes h, h]
    have HS := Lib.hid (fun b0 b1 wx l0 l1 c0 c1 => search_any P T b0 b1 p1 p2 t1 t2 wx l0 l1 c0 c1)
    have hmf : ∀ (fn : Fn) (first cap : Array Value) (w : World), (Instr.makeFunc fn first cap).run Try.prog w = .ok (.func fn first cap) w := fun _ _ _ _ => rfl
    have hPi : (P : Int) ≤ 1000000 := by omega
    clear h p2
    go_enter Try.func18, Try.ntmps18
    go_wp2_with (go_at_call 46; refine (upTo_any _ _ _).mono ?_; rintro e wx ⟨rfl, rfl⟩; first | rw [h1] | rw [h2])
    refine (HS.out w.heap.size (w.heap.size + 1) _ (by simp; omega) (by simp) (by simp [go_sem]) (by simp [go_sem])).mono ?_; rintro e w2 ⟨rfl, hb2⟩
    go_wp2
    go_ret2
    exact ⟨rfl, bcall (by simp; omega) hb2 (by (repeat (first | (with_reducible exact Below.refl _ _) | (with_reducible assumption) | (with_reducible refine Below.drew ?_) | ((with_reducible refine balloc ?_ _ ?_); · (first | (simp; done) | (simp; omega) | omega)) | ((with_reducible refine bset ?_ _ ?_); · (first | (simp; done) | (simp; omega) | omega)) | (with_reducible refine bdrewN _ ?_) | ((with_reducible refine bcall ?_ (by assumption) ?_); · (first | (simp; done) | (simp; omega) | omega)))))⟩
  all_goals
    rw [rfN_no h, h]
    go_enter Try.func18, Try.ntmps18
    go_wp2_with (go_at_call 46; refine (upTo_any _ _ _).mono ?_; rintro e wx ⟨rfl, rfl⟩; first | rw [h1] | rw [h2])
    go_ret2
    exact ⟨rfl, by (repeat (first | (with_reducible exact Below.refl _ _) | (with_reducible assumption) | (with_reducible refine Below.drew ?_) | ((with_reducible refine balloc ?_ _ ?_); · (first | (simp; done) | (simp; omega) | omega)) | ((with_reducible refine bset ?_ _ ?_); · (first | (simp; done) | (simp; omega) | omega)) | (with_reducible refine bdrewN _ ?_) | ((with_reducible refine bcall ?_ (by assumption) ?_); · (first | (simp; done) | (simp; omega) | omega))))⟩

set_option maxRecDepth 100000 in
set_option maxHeartbeats 2000000 in
theorem sRounds_any (p t : Int) (w : World) :
    Calls Try.prog 17 #[.int .i64 p, .int .i64 t] w fun e w' => e = .returned (.tuple #[.int .i64 (rfN p t), .bool (tfOk p t)]) ∧ Below w.heap.size w w' := by
  refine tfOk_cases p t (fun h1 h => ?_) (fun h1 h2 h => ?_) (fun h1 h2 h => ?_)
  case refine_3 =>
    obtain ⟨P, T, rfl, rfl, p1, p2, t1, t2⟩ := tfOk_nat h
    rw [rfN_yes h, h]
    have HV := Lib.hid (fun k h1 h2 => rfV_min (k := k) p1 p2 t1 h1 h2)
    have H0 : Hid (P ≤ roomN 1000000 T) := by
      have h := roomN_up 1000000 t1
      rw [roomN_one] at h
      simp only [Hid]; omega
    clear h p2
    go_enter Try.func17, Try.ntmps17
    go_wp2_with first | (go_at_call 43; refine (bxPralines_any _ _).mono ?_; rintro e wx ⟨rfl, rfl⟩; rw [h1]) | (go_at_call 44; refine (l1In_any _ _ _ _).mono ?_; rintro e wx ⟨rfl, rfl⟩; first | rw [h1] | rw [h2])
    go_loop [6, 7, 8] (fun i j _ => ∃ lo hi : Nat, i = .int .i64 (lo : Int) ∧ j = .int .i64 (hi : Int) ∧ lo ≤ hi ∧ (hi : Int) ≤ 1000000 ∧ Hid (∀ t, t < lo → roomN t T < P) ∧ Hid (P ≤ roomN hi T)) (fun i j _ => ((intOf j).toNat - (intOf i).toNat))
    case atStart => exact ⟨0, 1000000, rfl, rfl, by omega, by omega, fun t ht => by omega, H0.out⟩
    case round =>
      obtain ⟨lo, hi, rfl, rfl, hlh, hhi, hL, hH⟩ := hrel
      by_cases hlt : lo < hi
      · obtain ⟨m, hm⟩ : ∃ m : Nat, m = (lo + hi) / 2 := ⟨_, rfl⟩
        have hm1 : ((lo : Int) + (hi : Int)) / 2 = (m : Int) := by omega
        have hmlo : lo ≤ m := by omega
        have hmhi : m < hi := by omega
        have HR := Lib.hid (fun wx => bxRoom_any T m t2 (by omega) wx)
        clear hm
        by_cases hp : P ≤ roomN m T
        · have HP := Lib.hid hp
          have hpi : (P : Int) ≤ ((roomN m T : Nat) : Int) := by omega
          clear hp
          generalize hq : roomN m T = q at HR hpi
          clear hq
          go_wp2_with (go_at_call 45; (try rw [hm1]); refine (HR.out _).mono ?_; rintro e wx ⟨rfl, rfl⟩)
          go_round
          case rel => exact ⟨lo, m, rfl, by (first | rw [hm1] | rfl), hmlo, by omega, hL, HP⟩
          case measure => simp [intOf]; omega
        · have HP : Hid (∀ t, t < m + 1 → roomN t T < P) := fun t ht => by
            have := roomN_upR T (show t ≤ m by omega)
            omega
          have hpi : ¬ (P : Int) ≤ ((roomN m T : Nat) : Int) := by omega
          clear hp
          generalize hq : roomN m T = q at HR hpi
          clear hq
          go_wp2_with (go_at_call 45; (try rw [hm1]); refine (HR.out _).mono ?_; rintro e wx ⟨rfl, rfl⟩)
          go_round
          case rel => exact ⟨m + 1, hi, by (try rw [hm1]); go_num, rfl, by omega, hhi, HP, hH⟩
          case measure => simp [intOf]; omega
      · have hlh2 : lo = hi := by omega
        have HE : Hid (rfV P T = lo) := HV.out lo hL.out (by rw [hlh2]; exact hH.out)
        have hli : ¬ (lo : Int) < (hi : Int) := by omega
        clear hlh2 hlt
        go_wp2
        go_ret2
        exact ⟨by rw [HE.out]; rfl, Below.refl _ _⟩
  all_goals
    rw [rfN_no h, h]
    go_enter Try.func17, Try.ntmps17
    go_wp2_with first | (go_at_call 43; refine (bxPralines_any _ _).mono ?_; rintro e wx ⟨rfl, rfl⟩; rw [h1]) | (go_at_call 44; refine (l1In_any _ _ _ _).mono ?_; rintro e wx ⟨rfl, rfl⟩; first | rw [h1] | rw [h2])
    go_ret2
    exact ⟨rfl, Below.refl _ _⟩
end Go.Proofs.Ytcggiekhlophlaa
