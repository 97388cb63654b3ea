/-
  Contracts: PoorestStrip of the program and of the model.
-/
import Derived.Test.YtbjjpndhfgfedaaStripsS
namespace Go.Proofs.Ytbjjpndhfgfedaa
open Go.RowKit

def shareB (t m : Int) : Bool := decide (1 ≤ t) && decide (t ≤ m) && decide (t ≤ 5)
def poorOk (ss : List ByteArray) (t : Int) : Bool := nutsB ss && shareB t (nutW ss)
def poorV (ss : List ByteArray) (t : Int) : Int := if poorOk ss t then pStrip (t - 1).toNat (linesL ss (nutW ss) ss.length true) else 0
abbrev okV (v : Int) (ok : Bool) : Value := .tuple #[.int .i64 v, .bool ok]

theorem share_in (t m : Int) : inB t 1 (imin m 5) = shareB t m := by
  unfold imin
  by_cases h1 : 1 ≤ t <;> by_cases h2 : t ≤ m <;> by_cases h3 : t ≤ 5 <;> split <;> simp [inB, shareB, h1, h2, h3] <;> omega

set_option maxHeartbeats 1000000 in
theorem canShare_any (t m : Int) (w : World) : Calls Try.prog 69 #[.int .i64 t, .int .i64 m] w fun e w' => e = .returned (.bool (shareB t m)) ∧ w = w' := by
  have key : ∀ b : Bool, shareB t m = b → Calls Try.prog 69 #[.int .i64 t, .int .i64 m] w fun e w' => e = .returned (.bool b) ∧ w = w' := by
    intro b hb
    by_cases h1 : 1 ≤ t
    · rcases (show m < 5 ∨ 5 ≤ m by omega) with h3 | h3
      · rcases (show t ≤ m ∨ m < t by omega) with h2 | h2
        all_goals
          first
          | (have hB : true = b := by rw [← hb]; simp [shareB, h1, h2]; omega)
          | (have hB : false = b := by rw [← hb]; simp [shareB, h1]; omega)
          subst hB
          clear hb
          go_enter Try.func69, Try.ntmps69
          go_wp2
          all_goals
            go_ret
            first
            | exact ⟨rfl, rfl⟩
            | exact ⟨congrArg (fun b => Ending.returned (.bool b)) (by simp; omega), rfl⟩
      · rcases (show t ≤ 5 ∨ 5 < t by omega) with h2 | h2
        all_goals
          first
          | (have hB : true = b := by rw [← hb]; simp [shareB, h1, h2]; omega)
          | (have hB : false = b := by rw [← hb]; simp [shareB, h1]; omega)
          subst hB
          clear hb
          go_enter Try.func69, Try.ntmps69
          go_wp2
          all_goals
            go_ret
            first
            | exact ⟨rfl, rfl⟩
            | exact ⟨congrArg (fun b => Ending.returned (.bool b)) (by simp; omega), rfl⟩
    · have hB : false = b := by rw [← hb]; simp [shareB, h1]
      subst hB
      clear hb
      go_enter Try.func69, Try.ntmps69
      go_wp2
      go_ret
      exact ⟨rfl, rfl⟩
  exact key _ rfl

set_option maxHeartbeats 1000000 in
theorem ntSharers_any (A : Option Addr) (n c : Nat) (ss : List ByteArray) (t m : Int) (w : World) (hr : Rd w 1 A n (strCells ss)) :
    Calls Try.prog 67 #[.slice A n c, .int .i64 t, .int .i64 m] w fun e w' => e = .returned (.bool (nutsB ss && shareB t m)) ∧ w = w' := by
  have HE := Lib.hid (share_in t m)
  cases hB : nutsB ss
  · go_enter Try.func67, Try.ntmps67
    go_wp2_with fail
    refine (ntGood_any _ _ _ _ _ hr).mono ?_; rintro e w1 ⟨rfl, rfl⟩
    rw [hB]
    go_wp2
    go_ret
    exact ⟨rfl, rfl⟩
  · go_enter Try.func67, Try.ntmps67
    go_wp2_with fail
    refine (ntGood_any _ _ _ _ _ hr).mono ?_; rintro e w1 ⟨rfl, rfl⟩
    rw [hB]
    go_wp2_with fail
    refine (l1Least_any _ _ _).mono ?_; rintro e w1 ⟨rfl, rfl⟩
    go_wp2_with fail
    refine (l1In_any _ _ _ _).mono ?_; rintro e w1 ⟨rfl, rfl⟩
    rw [HE.out]
    go_wp2
    go_ret
    exact ⟨rfl, rfl⟩

theorem poor_some {ss : List ByteArray} {t : Int} {n : Nat} (hB : nutsB ss = true) (hl : ss.length = n) (h : shareB t (nutW ss) = true) : poorOk ss t = true ∧ poorV ss t = pStrip (t - 1).toNat (linesL ss (nutW ss) n true) := by
  have hk : poorOk ss t = true := by simp [poorOk, hB, h]
  exact ⟨hk, by rw [poorV, hk, hl]; rfl⟩
theorem poor_none {ss : List ByteArray} {t : Int} (h : poorOk ss t = false) : poorV ss t = 0 := by simp [poorV, h]
theorem share_bounds {t m : Int} (h : shareB t m = true) : 1 ≤ t ∧ t ≤ m ∧ t ≤ 5 := by
  simp [shareB] at h; omega

set_option maxHeartbeats 1000000 in
theorem sPoorestStrip_any (A : Option Addr) (n c : Nat) (ss : List ByteArray) (t : Int) (w : World) (hr : Rd w 1 A n (strCells ss)) :
    Calls Try.prog 44 #[.slice A n c, .int .i64 t] w fun e w' => e = .returned (okV (poorV ss t) (poorOk ss t)) ∧ w = w' := by
  cases hB : nutsB ss
  · have hk : poorOk ss t = false := by simp [poorOk, hB]
    rw [poor_none hk, hk]
    clear hk
    go_enter Try.func44, Try.ntmps44
    go_wp2_with fail
    refine (ntGood_any _ _ _ _ _ hr).mono ?_; rintro e w1 ⟨rfl, rfl⟩
    rw [hB]
    go_wp2
    refine bodyPost_ret (v := okV 0 false) (by simp [results, Try.results44, go_sem]) rfl ⟨rfl, rfl⟩
  · have hb := NB.of hB
    have hl := hr.slen
    rw [hl] at hb
    cases hS : shareB t (nutW ss)
    · have hk : poorOk ss t = false := by simp [poorOk, hS]
      rw [poor_none hk, hk]
      clear hk hl
      generalize nutW ss = W at *
      obtain ⟨b, o, rfl, hbl, s0, p0, hs0, _⟩ := hr.nut0 hb
      have hs := hs0.out
      subst hs
      have hn1 := hb.h1
      go_enter Try.func44, Try.ntmps44
      go_wp2_with fail
      refine (ntGood_any _ _ _ _ _ hr).mono ?_; rintro e w1 ⟨rfl, rfl⟩
      rw [hB]
      go_wp2_with fail
      refine (ntSharers_any _ _ _ ss _ _ _ hr).mono ?_; rintro e w1 ⟨rfl, rfl⟩
      rw [hB, hS]
      go_wp2
      refine bodyPost_ret (v := okV 0 false) (by simp [results, Try.results44, go_sem]) rfl ⟨rfl, rfl⟩
    · obtain ⟨hk, hV⟩ := poor_some hB hl hS
      rw [hk, hV]
      clear hk hl hV
      obtain ⟨b1, b2, b3⟩ := share_bounds hS
      have hst := fun (A : Option Addr) (w : World) => ntStrip_any (t - 1).toNat A n c (nutW ss) ss 0 t 0 w
      have hsv : stripV (t - 1).toNat ((linesL ss (nutW ss) n true).drop 0) = pStrip (t - 1).toNat (linesL ss (nutW ss) n true) := by
        unfold stripV
        rw [List.drop_zero, length_linesL, if_neg (by simp; omega)]
      simp only [hsv] at hst
      have HST := Lib.hid hst
      clear hst hsv
      generalize hq : pStrip (t - 1).toNat (linesL ss (nutW ss) n true) = q at *
      clear hq
      generalize nutW ss = W at *
      obtain ⟨b, o, rfl, hbl, s0, p0, hs0, _⟩ := hr.nut0 hb
      have hs := hs0.out
      subst hs
      have hn1 := hb.h1
      go_enter Try.func44, Try.ntmps44
      go_wp2_with fail
      refine (ntGood_any _ _ _ _ _ hr).mono ?_; rintro e w1 ⟨rfl, rfl⟩
      rw [hB]
      go_wp2_with fail
      refine (ntSharers_any _ _ _ ss _ _ _ hr).mono ?_; rintro e w1 ⟨rfl, rfl⟩
      rw [hB, hS]
      go_wp2_with fail
      refine (HST.out _ _ hr hb rfl (by omega) (by omega) (by omega)).mono ?_; rintro e w1 ⟨rfl, rfl⟩
      go_wp2
      refine bodyPost_ret (v := okV q true) (by simp [results, Try.results44, go_sem]) rfl ⟨rfl, rfl⟩

set_option maxHeartbeats 1000000 in
theorem poorestStrip_any (A : Option Addr) (n c : Nat) (ss : List ByteArray) (t : Int) (w : World) (hr : Rd w 1 A n (strCells ss)) :
    Calls Try.prog 45 #[.slice A n c, .int .i64 t] w fun e w' => e = .returned (okV (poorV ss t) (poorOk ss t)) ∧ Below w.heap.size w w' := by
  cases hB : nutsB ss
  · have hk : poorOk ss t = false := by simp [poorOk, hB]
    rw [poor_none hk, hk]
    clear hk
    go_enter Try.func45, Try.ntmps45
    go_wp2_with fail
    refine (areNuts_any _ _ _ _ _ hr).mono ?_; rintro e w1 ⟨rfl, rfl⟩
    rw [hB]
    go_wp2
    refine bodyPost_ret (v := okV 0 false) (by simp [results, Try.results45, go_sem]) rfl ⟨rfl, Below.refl _ _⟩
  · have hb := NB.of hB
    have hl := hr.slen
    rw [hl] at hb
    cases hS : shareB t (nutW ss)
    · have hk : poorOk ss t = false := by simp [poorOk, hS]
      rw [poor_none hk, hk]
      clear hk hl
      have HS := Lib.hid hS
      have hfld := fun wx => bar_field0 (nutW ss) n wx
      clear hS
      go_enter Try.func45, Try.ntmps45
      go_wp2_with fail
      refine (areNuts_any _ _ _ _ _ hr).mono ?_; rintro e w1 ⟨rfl, rfl⟩
      rw [hB]
      go_wp2_with fail
      refine (barOf_any _ _ _ _ ss _ hr hb).mono ?_; rintro e w1 ⟨rfl, hb1⟩
      go_wp2_with fail
      refine (canShare_any _ _ _).mono ?_; rintro e w2 ⟨rfl, rfl⟩
      rw [HS.out]
      go_wp2
      refine bodyPost_ret (v := okV 0 false) (by simp [results, Try.results45, go_sem]) rfl ⟨rfl, hb1⟩
    · obtain ⟨hk, hV⟩ := poor_some hB hl hS
      rw [hk, hV]
      clear hk hl hV
      obtain ⟨b1, b2, b3⟩ := share_bounds hS
      have HS := Lib.hid hS
      clear hS
      have hW8 := hb.w8
      have hfld := fun wx => bar_field0 (nutW ss) n wx
      have HSM := Lib.hid (lines_small hb true)
      have HLN : Hid ((linesL ss (nutW ss) n true).length = nutW ss) := by simp only [Hid]; rw [length_linesL]; rfl
      have hln := fun (w : World) hr => lineNuts_lines A n c (nutW ss) ss true w hr hb
      have hbar := fun (w : World) hr => barOf_any A n c (nutW ss) ss w hr hb
      have HLNS := Lib.hid hln
      have HBAR := Lib.hid hbar
      clear hln hbar
      have hpo : ∀ (b o c : Nat) (w : World), Rd w 1 (some ⟨b, o, none⟩) (nutW ss) (intCells (linesL ss (nutW ss) n true)) → nutW ss ≤ c → Calls Try.prog 70 #[.slice (some ⟨b, o, none⟩) (nutW ss) c, .int .i64 t] w fun e w' => e = .returned (.int .i64 (pStrip (t - 1).toNat (linesL ss (nutW ss) n true))) ∧ Below w.heap.size w w' :=
        fun b o c w hr hc => poorest_any (t - 1).toNat b o (nutW ss) c _ t w hr HSM.out hc hW8 (by omega) (by omega)
      have HPO := Lib.hid hpo
      clear hpo HSM
      generalize pStrip (t - 1).toNat (linesL ss (nutW ss) n true) = q at *
      generalize linesL ss (nutW ss) n true = L at *
      go_enter Try.func45, Try.ntmps45
      go_wp2_with fail
      refine (areNuts_any _ _ _ _ _ hr).mono ?_; rintro e w1 ⟨rfl, rfl⟩
      rw [hB]
      go_wp2_with fail
      refine (HBAR.out _ hr).mono ?_; rintro e w1 ⟨rfl, hb1⟩
      go_wp2_with fail
      refine (canShare_any _ _ _).mono ?_; rintro e w2 ⟨rfl, rfl⟩
      rw [HS.out]
      go_wp2_with fail
      refine (HLNS.out _ (hr.later hb1 (Nat.le_refl _))).mono ?_; rintro e w3 ⟨A1, n1, c1, rfl, own1, hb3⟩
      have rd1 := Rd.of_own own1
      have hc1 := own_cap own1
      have hn1 : n1 = nutW ss := by have h := rd1.ilen; have h2 := HLN.out; omega
      subst hn1
      obtain ⟨g, o, rfl, _, _⟩ := rd1.2 (by omega)
      go_wp2_with fail
      refine (HPO.out _ _ _ _ rd1 hc1).mono ?_; rintro e w4 ⟨rfl, hb4⟩
      go_wp2
      refine bodyPost_ret (v := okV q true) (by simp [results, Try.results45, go_sem]) rfl ⟨rfl, bcall (Nat.le_trans hb1.size hb3.size) hb4 (bcall hb1.size hb3 hb1)⟩

end Go.Proofs.Ytbjjpndhfgfedaa
