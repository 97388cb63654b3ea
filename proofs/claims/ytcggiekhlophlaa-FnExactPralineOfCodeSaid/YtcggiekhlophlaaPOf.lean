/-
  Contracts: PralineOfCode of the program and of the model. Conditions: none.
-/
import Derived.Test.YtcggiekhlophlaaCodeF
namespace Go.Proofs.Ytcggiekhlophlaa
open Go.RowKit
set_option linter.unusedVariables false
set_option linter.unusedSimpArgs false

/-- a code read as a number, if it is one of P pralines -/
def pcRun (P R : Nat) : List Int → Nat → Option Nat
  | [], a => some a
  | z :: l, a => if 0 ≤ z ∧ z ≤ (R : Int) then (if a * (R + 1) + z.toNat < P then pcRun P R l (a * (R + 1) + z.toNat) else none) else none
theorem pcRun_all {P R : Nat} : ∀ (l : List Int) (a : Nat), pcRun P R l a ≠ none → ∀ z ∈ l, inB z 0 R = true
  | [], _, _, z, hz => by simp at hz
  | y :: l, a, h, z, hz => by
    unfold pcRun at h
    by_cases h1 : 0 ≤ y ∧ y ≤ (R : Int)
    · rw [if_pos h1] at h
      by_cases h2 : a * (R + 1) + y.toNat < P
      · rw [if_pos h2] at h
        rcases List.mem_cons.1 hz with rfl | h3
        · simp [inB]; exact h1
        · exact pcRun_all l _ h z h3
      · rw [if_neg h2] at h; exact absurd rfl h
    · rw [if_neg h1] at h; exact absurd rfl h
theorem pc_drop {P R : Nat} {l : List Int} {k a : Nat} (hk : k < l.length) : pcRun P R (l.drop k) a = if 0 ≤ l[k] ∧ l[k] ≤ (R : Int) then (if a * (R + 1) + (l[k]).toNat < P then pcRun P R (l.drop (k + 1)) (a * (R + 1) + (l[k]).toNat) else none) else none := by
  rw [List.drop_eq_getElem_cons hk]; rfl
def poB (p t r : Int) (l : List Int) : Bool := beB p t r && (decide ((l.length : Int) = t) && (pcRun p.toNat r.toNat l 0).isSome)
def poN (p t r : Int) (l : List Int) : Int := if poB p t r l then (((pcRun p.toNat r.toNat l 0).getD 0 : Nat) : Int) else 0
theorem poN_no {p t r : Int} {l : List Int} (h : poB p t r l = false) : poN p t r l = 0 := by simp [poN, h]

set_option maxRecDepth 100000 in
set_option maxHeartbeats 1000000 in
theorem l1All_any (A : Option Addr) (n c : Nat) (l : List Int) (a b : Int) (w : World) (hr : Rd w 1 A n (intCells l)) (hn : n ≤ 1048576) :
    Calls Try.prog 56 #[.slice A n c, .int .i64 a, .int .i64 b] w fun e w' => e = .returned (.bool (l.all fun z => inB z a b)) ∧ w = w' := by
  have hl := Lib.hid hr.ilen
  go_enter Try.func56, Try.ntmps56
  go_wp2
  go_loop [8, 11] (fun _ i => ∃ k : Nat, k ≤ n ∧ i = .int .i64 k ∧ Hid ((l.take k).all (fun z => inB z a b) = true)) (fun _ i => n - (intOf i).toNat)
  case atStart => exact ⟨0, Nat.zero_le _, rfl, by simp [Hid]⟩
  case round =>
    obtain ⟨k, hk, rfl, hT⟩ := hrel
    by_cases hlt : k < n
    · obtain ⟨b1, o1, rfl, l1, hx, p1⟩ := hr.num hlt
      cases h : inB l[k] a b
      · have HF : Hid (l.all (fun z => inB z a b) = false) := by
          simp only [Hid, List.all_eq_false]
          exact ⟨l[k], List.getElem_mem hx, by rw [h]; simp⟩
        generalize l[k] = z at *
        go_wp2_with (go_at_call 44; refine (l1In_any _ _ _ _).mono ?_; rintro e wx ⟨rfl, rfl⟩; rw [h])
        go_ret
        exact ⟨ret_bool HF.out.symm, rfl⟩
      · have HS : Hid ((l.take (k + 1)).all (fun z => inB z a b) = true) := by
          simp only [Hid]
          rw [List.take_succ_eq_append_getElem hx, List.all_append, hT.out]
          simp [h]
        generalize l[k] = z at *
        go_wp2_with (go_at_call 44; refine (l1In_any _ _ _ _).mono ?_; rintro e wx ⟨rfl, rfl⟩; rw [h])
        go_round
        case rel => exact ⟨k + 1, by omega, by go_num, HS⟩
        case measure => simp [intOf]; omega
    · have HE : Hid (l.all (fun z => inB z a b) = true) := by
        have h := hT.out
        rw [List.take_of_length_le (by have := hl.out; omega)] at h
        exact h
      go_wp2
      go_ret
      exact ⟨ret_bool HE.out.symm, rfl⟩


set_option maxRecDepth 100000 in
set_option maxHeartbeats 4000000 in
theorem pralineOf_any (p t r : Int) (A : Option Addr) (n c : Nat) (l : List Int) (w : World) (hr : Rd w 1 A n (intCells l)) (hn : n ≤ 1048576) :
    Calls Try.prog 28 #[.int .i64 p, .int .i64 t, .int .i64 r, .slice A n c] w fun e w' => e = .returned (.tuple #[.int .i64 (poN p t r l), .bool (poB p t r l)]) ∧ Below w.heap.size w w' := by
  have hl := Lib.hid hr.ilen
  cases h : beB p t r
  · have hB : poB p t r l = false := by simp [poB, h]
    rw [poN_no hB, hB]
    go_enter Try.func28, Try.ntmps28
    go_wp2_with fail
    refine (canBe_any _ _ _ _).mono ?_; rintro e w1 ⟨rfl, hb1⟩; have s1 := hb1.size; obtain ⟨hc1, hf1⟩ := bcell hb1
    rw [h]
    go_wp2
    go_ret2
    exact ⟨rfl, by (repeat (first | (with_reducible exact Below.refl _ _) | (with_reducible assumption) | (with_reducible refine Below.drew ?_) | ((with_reducible refine balloc ?_ _ ?_); · (first | (simp; done) | (simp; omega) | omega)) | ((with_reducible refine bset ?_ _ ?_); · (first | (simp; done) | (simp; omega) | omega)) | (with_reducible refine bdrewN _ ?_) | ((with_reducible refine bcall ?_ (by assumption) ?_); · (first | (simp; done) | (simp; omega) | omega))))⟩
  · obtain ⟨P, T, R, rfl, rfl, rfl, p1, p2, t1, t2, r1, r2, pr⟩ := beB_nat h
    clear pr
    by_cases hn2 : n = T
    · have HEB : Hid (pcRun P R l 0 = none → poB (P : Int) (T : Int) (R : Int) l = false) := fun h => by simp [poB, h]
      have HEN : Hid (pcRun P R l 0 = none → poN (P : Int) (T : Int) (R : Int) l = 0) := fun h => poN_no (HEB.out h)
      have HYB : Hid (∀ x, pcRun P R l 0 = some x → poB (P : Int) (T : Int) (R : Int) l = true) := fun x hx => by simp [poB, hx, h, hl.out, hn2]
      have HYN : Hid (∀ x, pcRun P R l 0 = some x → poN (P : Int) (T : Int) (R : Int) l = (x : Int)) := fun x hx => by simp [poN, HYB.out x hx, hx]
      subst hn2
      have hnb : ((n : Int) != (n : Int)) = false := by simp
      go_enter Try.func28, Try.ntmps28
      go_wp2_with fail
      refine (canBe_any _ _ _ _).mono ?_; rintro e w1 ⟨rfl, hb1⟩; have s1 := hb1.size; obtain ⟨hc1, hf1⟩ := bcell hb1
      rw [h]
      have hr1 := hr.later hb1 (Nat.le_refl _)
      clear hc1 hf1 hr
      go_wp2
      go_loop [8, 9, 10, 12, 26] (fun u v a _ i => ∃ k x : Nat, k ≤ n ∧ i = .int .i64 k ∧ a = .int .i64 (x : Int) ∧ (x : Int) ≤ 1000000 ∧ u = .int .i64 0 ∧ v = .bool false ∧ Hid (pcRun P R (l.drop k) x = pcRun P R l 0)) (fun _ _ _ _ i => n - (intOf i).toNat)
      case atStart => exact ⟨0, 0, Nat.zero_le _, rfl, rfl, by omega, rfl, rfl, by simp [Hid]⟩
      case round =>
        obtain ⟨k, x, hk, rfl, rfl, hx6, rfl, rfl, hT⟩ := hrel
        by_cases hlt : k < n
        · obtain ⟨b1, o1, rfl, l1, hx, p1⟩ := (hr1).num hlt
          have HS := Lib.hid ((pc_drop (P := P) (R := R) (a := x) hx).symm.trans hT.out)
          skip
          generalize l[k] = z at *
          by_cases h1 : 0 ≤ z
          case neg => 
            have HN : Hid (pcRun P R l 0 = none) := by
              have h := HS.out
              rw [if_neg (by omega)] at h
              exact h.symm
            have h1i : z < 0 := by omega
            go_wp2
            go_ret2
            exact ⟨by rw [HEN.out HN.out, HEB.out HN.out]; rfl, by (repeat (first | (with_reducible exact Below.refl _ _) | (with_reducible assumption) | (with_reducible refine Below.drew ?_) | ((with_reducible refine balloc ?_ _ ?_); · (first | (simp; done) | (simp; omega) | omega)) | ((with_reducible refine bset ?_ _ ?_); · (first | (simp; done) | (simp; omega) | omega)) | (with_reducible refine bdrewN _ ?_) | ((with_reducible refine bcall ?_ (by assumption) ?_); · (first | (simp; done) | (simp; omega) | omega))))⟩
          obtain ⟨z, rfl⟩ : ∃ q : Nat, z = q := ⟨z.toNat, by omega⟩
          by_cases h2 : (z : Int) ≤ (R : Int)
          case neg => 
            have HN : Hid (pcRun P R l 0 = none) := by
              have h := HS.out
              rw [if_neg (by omega)] at h
              exact h.symm
            have h2i : ¬ (z : Int) ≤ (R : Int) := h2
            go_wp2
            go_ret2
            exact ⟨by rw [HEN.out HN.out, HEB.out HN.out]; rfl, by (repeat (first | (with_reducible exact Below.refl _ _) | (with_reducible assumption) | (with_reducible refine Below.drew ?_) | ((with_reducible refine balloc ?_ _ ?_); · (first | (simp; done) | (simp; omega) | omega)) | ((with_reducible refine bset ?_ _ ?_); · (first | (simp; done) | (simp; omega) | omega)) | (with_reducible refine bdrewN _ ?_) | ((with_reducible refine bcall ?_ (by assumption) ?_); · (first | (simp; done) | (simp; omega) | omega))))⟩
          have hz20 : z ≤ 20 := by omega
          have hq := Nat.mul_le_mul (show x ≤ 1000000 by omega) (show R + 1 ≤ 21 by omega)
          obtain ⟨q, hqq⟩ : ∃ q, q = x * (R + 1) := ⟨_, rfl⟩
          have HQ := Lib.hid hqq
          rw [← hqq] at hq
          have hq2 : (q : Int) ≤ 21000000 := by omega
          have e1 : (x : Int) * ((R : Int) + 1) = (q : Int) := by rw [hqq]; push_cast; rfl
          have e2 : wrap64 ((x : Int) * ((R : Int) + 1)) = (q : Int) := by rw [e1]; exact IntWalk.wrap64_in _ (by omega)
          have HS2 : Hid ((if q + z < P then pcRun P R (l.drop (k + 1)) (q + z) else none) = pcRun P R l 0) := by
            have h := HS.out
            rw [if_pos ⟨h1, h2⟩, Int.toNat_natCast, ← HQ.out] at h
            exact h
          have h3c := Lib.hid (show q + z < P → (q : Int) + (z : Int) < (P : Int) ∧ ((q + z : Nat) : Int) ≤ 1000000 from fun h => by clear e1 e2; omega)
          have h3d := Lib.hid (show ¬ q + z < P → ¬ (q : Int) + (z : Int) < (P : Int) from fun h => by clear e1 e2; omega)
          have h4c := Lib.hid (show q + z < P → inB ((q : Int) + (z : Int)) 0 ((P : Int) - 1) = true from fun h => by clear e1 e2; simp [inB]; omega)
          have h4d := Lib.hid (show ¬ q + z < P → inB ((q : Int) + (z : Int)) 0 ((P : Int) - 1) = false from fun h => by clear e1 e2; simp [inB]; omega)
          have hx7 := hx6
          have hq7 := hq2
          clear hqq HS hq e1 hx6 hq2
          by_cases h3 : q + z < P
          · have HS3 : Hid (pcRun P R (l.drop (k + 1)) (q + z) = pcRun P R l 0) := by
              have h := HS2.out
              rw [if_pos h3] at h
              exact h
            have h3i := (h3c.out h3).1
            have h4 := h4c.out h3
            have HQZ := Lib.hid (h3c.out h3).2
            clear h3 HS2 hT
            go_wp2_with (go_at_call 54; refine (isPr_any _ _ _).mono ?_; rintro e wx ⟨rfl, rfl⟩; rw [h4])
            go_round
            case rel => exact ⟨k + 1, q + z, by omega, by go_num, by go_num, HQZ.out, rfl, rfl, HS3⟩
            case measure => simp [intOf]; omega
          · have HN : Hid (pcRun P R l 0 = none) := by
              have h := HS2.out
              rw [if_neg h3] at h
              exact h.symm
            have h3i := h3d.out h3
            have h4 := h4d.out h3
            clear h3 HS2 hT
            go_wp2_with (go_at_call 54; refine (isPr_any _ _ _).mono ?_; rintro e wx ⟨rfl, rfl⟩; rw [h4])
            go_ret2
            exact ⟨by rw [HEN.out HN.out, HEB.out HN.out]; rfl, by (repeat (first | (with_reducible exact Below.refl _ _) | (with_reducible assumption) | (with_reducible refine Below.drew ?_) | ((with_reducible refine balloc ?_ _ ?_); · (first | (simp; done) | (simp; omega) | omega)) | ((with_reducible refine bset ?_ _ ?_); · (first | (simp; done) | (simp; omega) | omega)) | (with_reducible refine bdrewN _ ?_) | ((with_reducible refine bcall ?_ (by assumption) ?_); · (first | (simp; done) | (simp; omega) | omega))))⟩
        · have HY : Hid (pcRun P R l 0 = some x) := by
            have h := hT.out
            rw [List.drop_of_length_le (by have := hl.out; omega)] at h
            exact h.symm
          have hkn : ¬ (k : Int) < (n : Int) := by omega
          clear hT
          go_wp2
          go_ret2
          exact ⟨by rw [HYN.out x HY.out, HYB.out x HY.out]; rfl, by (repeat (first | (with_reducible exact Below.refl _ _) | (with_reducible assumption) | (with_reducible refine Below.drew ?_) | ((with_reducible refine balloc ?_ _ ?_); · (first | (simp; done) | (simp; omega) | omega)) | ((with_reducible refine bset ?_ _ ?_); · (first | (simp; done) | (simp; omega) | omega)) | (with_reducible refine bdrewN _ ?_) | ((with_reducible refine bcall ?_ (by assumption) ?_); · (first | (simp; done) | (simp; omega) | omega))))⟩
    · have hB : poB (P : Int) (T : Int) (R : Int) l = false := by simp [poB, hl.out, hn2]; omega
      have hnb : ((n : Int) != (T : Int)) = true := by simp; omega
      rw [poN_no hB, hB]
      go_enter Try.func28, Try.ntmps28
      go_wp2_with fail
      refine (canBe_any _ _ _ _).mono ?_; rintro e w1 ⟨rfl, hb1⟩; have s1 := hb1.size; obtain ⟨hc1, hf1⟩ := bcell hb1
      rw [h]
      go_wp2
      go_ret2
      exact ⟨rfl, by (repeat (first | (with_reducible exact Below.refl _ _) | (with_reducible assumption) | (with_reducible refine Below.drew ?_) | ((with_reducible refine balloc ?_ _ ?_); · (first | (simp; done) | (simp; omega) | omega)) | ((with_reducible refine bset ?_ _ ?_); · (first | (simp; done) | (simp; omega) | omega)) | (with_reducible refine bdrewN _ ?_) | ((with_reducible refine bcall ?_ (by assumption) ?_); · (first | (simp; done) | (simp; omega) | omega))))⟩

set_option maxRecDepth 100000 in
set_option maxHeartbeats 4000000 in
theorem sPralineOf_any (p t r : Int) (A : Option Addr) (n c : Nat) (l : List Int) (w : World) (hr : Rd w 1 A n (intCells l)) (hn : n ≤ 1048576) :
    Calls Try.prog 26 #[.int .i64 p, .int .i64 t, .int .i64 r, .slice A n c] w fun e w' => e = .returned (.tuple #[.int .i64 (poN p t r l), .bool (poB p t r l)]) ∧ Below w.heap.size w w' := by
  have hl := Lib.hid hr.ilen
  cases h : beB p t r
  · have hB : poB p t r l = false := by simp [poB, h]
    rw [poN_no hB, hB]
    go_enter Try.func26, Try.ntmps26
    go_wp2_with (go_at_call 51; refine (bxEnough_any _ _ _ _).mono ?_; rintro e wx ⟨rfl, rfl⟩; rw [h])
    go_ret2
    exact ⟨rfl, Below.refl _ _⟩
  · obtain ⟨P, T, R, rfl, rfl, rfl, p1, p2, t1, t2, r1, r2, pr⟩ := beB_nat h
    clear pr
    by_cases hn2 : n = T
    · have HEB : Hid (pcRun P R l 0 = none → poB (P : Int) (T : Int) (R : Int) l = false) := fun h => by simp [poB, h]
      have HEN : Hid (pcRun P R l 0 = none → poN (P : Int) (T : Int) (R : Int) l = 0) := fun h => poN_no (HEB.out h)
      have HYB : Hid (∀ x, pcRun P R l 0 = some x → poB (P : Int) (T : Int) (R : Int) l = true) := fun x hx => by simp [poB, hx, h, hl.out, hn2]
      have HYN : Hid (∀ x, pcRun P R l 0 = some x → poN (P : Int) (T : Int) (R : Int) l = (x : Int)) := fun x hx => by simp [poN, HYB.out x hx, hx]
      subst hn2
      have hnb : ((n : Int) != (n : Int)) = false := by simp
      cases ha : l.all fun z => inB z 0 (R : Int)
      · have HN : Hid (pcRun P R l 0 = none) := by
          simp only [Hid]
          cases hx : pcRun P R l 0
          · rfl
          · have := pcRun_all l 0 (by rw [hx]; simp)
            have h2 : (l.all fun z => inB z 0 (R : Int)) = true := List.all_eq_true.2 this
            rw [ha] at h2; cases h2
        rw [HEN.out HN.out, HEB.out HN.out]
        go_enter Try.func26, Try.ntmps26
        go_wp2_with first | (go_at_call 51; refine (bxEnough_any _ _ _ _).mono ?_; rintro e wx ⟨rfl, rfl⟩; rw [h]) | (go_at_call 56; refine (l1All_any _ _ _ l _ _ _ hr hn).mono ?_; rintro e wx ⟨rfl, rfl⟩; rw [ha])
        go_ret2
        exact ⟨rfl, Below.refl _ _⟩
      · have HA : Hid (∀ z ∈ l, inB z 0 (R : Int) = true) := List.all_eq_true.1 ha
        have hr1 := hr
        go_enter Try.func26, Try.ntmps26
        go_wp2_with first | (go_at_call 51; refine (bxEnough_any _ _ _ _).mono ?_; rintro e wx ⟨rfl, rfl⟩; rw [h]) | (go_at_call 56; refine (l1All_any _ _ _ l _ _ _ hr hn).mono ?_; rintro e wx ⟨rfl, rfl⟩; rw [ha])
        clear ha hr
        go_loop [8, 9, 10, 12, 32] (fun u v a _ i => ∃ k x : Nat, k ≤ n ∧ i = .int .i64 k ∧ a = .int .i64 (x : Int) ∧ (x : Int) ≤ 1000000 ∧ u = .int .i64 0 ∧ v = .bool false ∧ Hid (pcRun P R (l.drop k) x = pcRun P R l 0)) (fun _ _ _ _ i => n - (intOf i).toNat)
        case atStart => exact ⟨0, 0, Nat.zero_le _, rfl, rfl, by omega, rfl, rfl, by simp [Hid]⟩
        case round =>
          obtain ⟨k, x, hk, rfl, rfl, hx6, rfl, rfl, hT⟩ := hrel
          by_cases hlt : k < n
          · obtain ⟨b1, o1, rfl, l1, hx, p1⟩ := (hr1).num hlt
            have HS := Lib.hid ((pc_drop (P := P) (R := R) (a := x) hx).symm.trans hT.out)
            have HZ := HA.out _ (List.getElem_mem hx); have HZ2 := inB_true HZ; clear HZ
            generalize l[k] = z at *
            by_cases h1 : 0 ≤ z
            case neg => exact absurd HZ2.1 h1
            obtain ⟨z, rfl⟩ : ∃ q : Nat, z = q := ⟨z.toNat, by omega⟩
            by_cases h2 : (z : Int) ≤ (R : Int)
            case neg => exact absurd HZ2.2 h2
            have hz20 : z ≤ 20 := by omega
            have hq := Nat.mul_le_mul (show x ≤ 1000000 by omega) (show R + 1 ≤ 21 by omega)
            obtain ⟨q, hqq⟩ : ∃ q, q = x * (R + 1) := ⟨_, rfl⟩
            have HQ := Lib.hid hqq
            rw [← hqq] at hq
            have hq2 : (q : Int) ≤ 21000000 := by omega
            have e1 : (x : Int) * ((R : Int) + 1) = (q : Int) := by rw [hqq]; push_cast; rfl
            have e2 : wrap64 ((x : Int) * ((R : Int) + 1)) = (q : Int) := by rw [e1]; exact IntWalk.wrap64_in _ (by omega)
            have HS2 : Hid ((if q + z < P then pcRun P R (l.drop (k + 1)) (q + z) else none) = pcRun P R l 0) := by
              have h := HS.out
              rw [if_pos ⟨h1, h2⟩, Int.toNat_natCast, ← HQ.out] at h
              exact h
            have h3c := Lib.hid (show q + z < P → (q : Int) + (z : Int) < (P : Int) ∧ ((q + z : Nat) : Int) ≤ 1000000 from fun h => by clear e1 e2; omega)
            have h3d := Lib.hid (show ¬ q + z < P → ¬ (q : Int) + (z : Int) < (P : Int) from fun h => by clear e1 e2; omega)
            have h4c := Lib.hid (show q + z < P → inB ((q : Int) + (z : Int)) 0 ((P : Int) - 1) = true from fun h => by clear e1 e2; simp [inB]; omega)
            have h4d := Lib.hid (show ¬ q + z < P → inB ((q : Int) + (z : Int)) 0 ((P : Int) - 1) = false from fun h => by clear e1 e2; simp [inB]; omega)
            have hx7 := hx6
            have hq7 := hq2
            clear hqq HS hq e1 hx6 hq2
            by_cases h3 : q + z < P
            · have HS3 : Hid (pcRun P R (l.drop (k + 1)) (q + z) = pcRun P R l 0) := by
                have h := HS2.out
                rw [if_pos h3] at h
                exact h
              have h3i := (h3c.out h3).1
              have h4 := h4c.out h3
              have HQZ := Lib.hid (h3c.out h3).2
              clear h3 HS2 hT
              go_wp2
              go_round
              case rel => exact ⟨k + 1, q + z, by omega, by go_num, by go_num, HQZ.out, rfl, rfl, HS3⟩
              case measure => simp [intOf]; omega
            · have HN : Hid (pcRun P R l 0 = none) := by
                have h := HS2.out
                rw [if_neg h3] at h
                exact h.symm
              have h3i := h3d.out h3
              have h4 := h4d.out h3
              clear h3 HS2 hT
              go_wp2
              go_ret2
              exact ⟨by rw [HEN.out HN.out, HEB.out HN.out]; rfl, by (repeat (first | (with_reducible exact Below.refl _ _) | (with_reducible assumption) | (with_reducible refine Below.drew ?_) | ((with_reducible refine balloc ?_ _ ?_); · (first | (simp; done) | (simp; omega) | omega)) | ((with_reducible refine bset ?_ _ ?_); · (first | (simp; done) | (simp; omega) | omega)) | (with_reducible refine bdrewN _ ?_) | ((with_reducible refine bcall ?_ (by assumption) ?_); · (first | (simp; done) | (simp; omega) | omega))))⟩
          · have HY : Hid (pcRun P R l 0 = some x) := by
              have h := hT.out
              rw [List.drop_of_length_le (by have := hl.out; omega)] at h
              exact h.symm
            have hkn : ¬ (k : Int) < (n : Int) := by omega
            clear hT
            go_wp2
            go_ret2
            exact ⟨by rw [HYN.out x HY.out, HYB.out x HY.out]; rfl, by (repeat (first | (with_reducible exact Below.refl _ _) | (with_reducible assumption) | (with_reducible refine Below.drew ?_) | ((with_reducible refine balloc ?_ _ ?_); · (first | (simp; done) | (simp; omega) | omega)) | ((with_reducible refine bset ?_ _ ?_); · (first | (simp; done) | (simp; omega) | omega)) | (with_reducible refine bdrewN _ ?_) | ((with_reducible refine bcall ?_ (by assumption) ?_); · (first | (simp; done) | (simp; omega) | omega))))⟩
    · have hB : poB (P : Int) (T : Int) (R : Int) l = false := by simp [poB, hl.out, hn2]; omega
      have hnb : ((n : Int) != (T : Int)) = true := by simp; omega
      rw [poN_no hB, hB]
      go_enter Try.func26, Try.ntmps26
      go_wp2_with (go_at_call 51; refine (bxEnough_any _ _ _ _).mono ?_; rintro e wx ⟨rfl, rfl⟩; rw [h])
      go_ret2
      exact ⟨rfl, Below.refl _ _⟩

end Go.Proofs.Ytcggiekhlophlaa
