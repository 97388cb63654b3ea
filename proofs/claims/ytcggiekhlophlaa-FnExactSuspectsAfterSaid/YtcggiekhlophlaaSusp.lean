/-
  Contracts: SuspectsAfter of the program and of the model. Conditions: none.
-/
import Derived.Test.YtcggiekhlophlaaSusW
import Derived.Test.YtcggiekhlophlaaIKit
import Derived.Test.YtcggiekhlophlaaReg
import Derived.Lib.BufferWrite
import Derived.StillTailTactics
namespace Go.Proofs.Ytcggiekhlophlaa
open Go.RowKit
set_option linter.unusedVariables false
set_option linter.unusedSimpArgs false

theorem int_infoU : (Try.prog.info? 3).map (fun i => (i.zero, i.size, i.bytes)) = some (some (.int .i64 0), 1, 8) := by kernel_rfl
def afFn (F M v : Nat) : Nat := if v = 108 then F else if v = 114 then F + panN M else if v = 61 then F + 2 * panN M else 0
def afMn (M v : Nat) : Nat := if v = 108 then panN M else if v = 114 then panN M else if v = 61 then M - 2 * panN M else 0
theorem afF_n (F M v : Nat) : afF F M v = (afFn F M v : Nat) := by unfold afF afFn; (repeat' split) <;> simp
theorem afM_n {M : Nat} (v : Nat) (h : 2 ≤ M) : afM M v = (afMn M v : Nat) := by
  have := panN_two h
  unfold afM afMn; (repeat' split) <;> omega
theorem af_sum {F M v : Nat} (h : 2 ≤ M) : afFn F M v + afMn M v ≤ F + M := by
  have := panN_two h
  unfold afFn afMn; (repeat' split) <;> omega
/-- the suspects behind results -/
def suRun : List UInt8 → Nat → Nat → Option (Nat × Nat)
  | [], F, M => some (F, M)
  | b :: l, F, M => if M = 1 then none else if afMn M b.toNat = 0 then none else suRun l (afFn F M b.toNat) (afMn M b.toNat)
theorem su_step {s : ByteArray} {k F M : Nat} (h : k < s.size) : suRun (s.data.toList.drop k) F M = if M = 1 then none else if afMn M (s[k]).toNat = 0 then none else suRun (s.data.toList.drop (k + 1)) (afFn F M (s[k]).toNat) (afMn M (s[k]).toNat) := by
  have hd : k < s.data.toList.length := by simpa using h
  have e : s.data.toList[k] = s[k] := rfl
  rw [List.drop_eq_getElem_cons hd, e]; rfl
theorem suRun_le {P : Nat} : ∀ (l : List UInt8) (F M F' M' : Nat), F + M ≤ P → 1 ≤ M → suRun l F M = some (F', M') → F' + M' ≤ P ∧ 1 ≤ M'
  | [], F, M, F', M', h, h1, e => by
    unfold suRun at e
    injection e with e
    injection e with e1 e2
    subst e1 e2; exact ⟨h, h1⟩
  | b :: l, F, M, F', M', h, h1, e => by
    unfold suRun at e
    by_cases c : M = 1
    · rw [if_pos c] at e; cases e
    · rw [if_neg c] at e
      by_cases d : afMn M b.toNat = 0
      · rw [if_pos d] at e; cases e
      · rw [if_neg d] at e
        have := af_sum (F := F) (v := b.toNat) (show 2 ≤ M by omega)
        exact suRun_le l _ _ F' M' (by omega) (by omega) e
def suL (F M : Nat) : List Int := (List.range M).map fun (i : Nat) => (F : Int) + (i : Int)
theorem length_suL (F M : Nat) : (suL F M).length = M := by simp [suL]
theorem suL_succ (F M : Nat) : suL F (M + 1) = suL F M ++ [(F : Int) + (M : Int)] := by simp [suL, List.range_succ]
def suP (F M k : Nat) : List Int := (List.range M).map fun (i : Nat) => if i < k then (F : Int) + (i : Int) else 0
theorem length_suP (F M k : Nat) : (suP F M k).length = M := by simp [suP]
theorem suP_zero (F M : Nat) : suP F M 0 = List.replicate M 0 := by
  apply List.ext_getElem
  · simp [suP]
  · intro j h1 h2; simp [suP]
theorem suP_all (F M : Nat) : suP F M M = suL F M := by
  apply List.ext_getElem
  · simp [suP, suL]
  · intro j h1 h2
    have hj : j < M := by simpa [suP] using h1
    simp [suP, suL, hj]
theorem suP_set {F M k : Nat} (hk : k < M) : (suP F M k).set k ((F : Int) + (k : Int)) = suP F M (k + 1) := by
  apply List.ext_getElem
  · simp [suP]
  · intro j h1 h2
    rw [List.getElem_set]
    by_cases e : k = j
    · rw [if_pos e]; subst e; simp [suP]
    · rw [if_neg e]
      simp [suP]
      by_cases a : j < k
      · rw [if_pos a, if_pos (by omega)]
      · rw [if_neg a, if_neg (by omega)]
def suB (p : Int) (s : ByteArray) : Bool := inB p 1 1000 && (suRun s.data.toList 0 p.toNat).isSome
def suR (p : Int) (s : ByteArray) : List Int := if inB p 1 1000 then (match suRun s.data.toList 0 p.toNat with | some (F, M) => suL F M | none => []) else []
theorem length_suR (p : Int) (s : ByteArray) : (suR p s).length ≤ 1000 := by
  unfold suR
  split
  · rename_i h
    obtain ⟨P, rfl, p1, p2⟩ := inB_nat (m := 1000) h
    split
    · rename_i F M e
      have := suRun_le (P := P) _ 0 P F M (by omega) p1 e
      rw [length_suL]; omega
    · simp
  · simp
theorem suRB_no {p : Int} {s : ByteArray} (h : inB p 1 1000 = false) : suR p s = [] ∧ suB p s = false := by simp [suR, suB, h]
theorem suRB_none {P : Nat} {s : ByteArray} (h : suRun s.data.toList 0 P = none) : suR (P : Int) s = [] ∧ suB (P : Int) s = false := by
  constructor
  · unfold suR
    split
    · simp [h]
    · rfl
  · simp [suB, h]
theorem suRB_some {P F M : Nat} {s : ByteArray} (h1 : inB (P : Int) 1 1000 = true) (h : suRun s.data.toList 0 P = some (F, M)) : suR (P : Int) s = suL F M ∧ suB (P : Int) s = true := by
  simp [suR, suB, h1, h]

def bxN (P : Nat) (s : ByteArray) : Nat × Nat × Bool := match suRun s.data.toList 0 P with | some (F, M) => (F, M, true) | none => (0, 0, false)
set_option maxRecDepth 100000 in
set_option maxHeartbeats 4000000 in
theorem bxAfter_any (P : Nat) (s : ByteArray) (h1P : 1 ≤ P) (hP : P ≤ 1000) (hs : s.size ≤ 1048576) (w : World) :
    Calls Try.prog 61 #[.int .i64 P, .string s] w fun e w' => e = .returned (.tuple #[.int .i64 ((bxN P s).1 : Nat), .int .i64 ((bxN P s).2.1 : Nat), .bool (bxN P s).2.2]) ∧ w = w' := by
  go_enter Try.func61, Try.ntmps61
  go_wp2
  go_loop [7, 8, 9] (fun f m i => ∃ k F M : Nat, k ≤ s.size ∧ i = .int .i64 k ∧ f = .int .i64 (F : Int) ∧ m = .int .i64 (M : Int) ∧ F + M ≤ P ∧ 1 ≤ M ∧ Hid (suRun (s.data.toList.drop k) F M = suRun s.data.toList 0 P)) (fun _ _ i => s.size - (intOf i).toNat)
  case atStart => exact ⟨0, 0, P, Nat.zero_le _, rfl, rfl, rfl, by omega, h1P, by simp [Hid]⟩
  case round =>
    obtain ⟨k, F, M, hk, rfl, rfl, rfl, hFM, hM1, hT⟩ := hrel
    have hM : M ≤ 1000 := by omega
    have HB := Lib.hid (fun wx => bxPan_any M hM wx)
    have hple := panN_le M
    by_cases hlt : k < s.size
    · have HS := Lib.hid ((su_step hlt).symm.trans hT.out)
      by_cases hm : M = 1
      · have HN : Hid (bxN P s = (0, 0, false)) := by
          have h := HS.out
          rw [if_pos hm] at h
          simp only [Hid, bxN, ← h]
        have hmi : ((M : Int) == 1) = true := by simp; omega
        clear hT hm
        generalize panN M = q at *
        go_wp2_with (go_at_call 59; refine (HB.out _).mono ?_; rintro e wx ⟨rfl, rfl⟩)
        go_ret3
        exact ⟨by rw [HN.out]; rfl, rfl⟩
      · have hM2 : 2 ≤ M := by omega
        have hmi : ((M : Int) == 1) = false := by simp; omega
        have hpt := panN_two hM2
        have hpp := panN_pos hM2
        have HS1 : Hid ((if afMn M (s[k]).toNat = 0 then none else suRun (s.data.toList.drop (k + 1)) (afFn F M (s[k]).toNat) (afMn M (s[k]).toNat)) = suRun s.data.toList 0 P) := by
          have h := HS.out
          rw [if_neg hm] at h
          exact h
        have hb8 : (s[k]).toNat < 256 := (s[k]).toNat_lt
        clear hT hm HS
        generalize hv : (s[k]).toNat = v at *
        by_cases c1 : v = 108
        · have c1i : ((v : Int) == 108) = true := by simp; omega
          have HN : Hid (suRun (s.data.toList.drop (k + 1)) F (panN M) = suRun s.data.toList 0 P) := by
            have h := HS1.out
            rw [show afMn M v = panN M by simp [afMn, c1], show afFn F M v = F by simp [afFn, c1], if_neg (by omega)] at h
            exact h
          have hq0 : (((panN M : Nat) : Int) == 0) = false := by simp; omega
          generalize panN M = q at *
          clear HS1
          go_wp2_with (go_at_call 59; refine (HB.out _).mono ?_; rintro e wx ⟨rfl, rfl⟩)
          go_round
          case rel => exact ⟨k + 1, F, q, by omega, by go_num, rfl, rfl, by omega, by omega, HN.out⟩
          case measure => simp [intOf]; omega
        · have c1i : ((v : Int) == 108) = false := by simp; omega
          by_cases c2 : v = 114
          · have c2i : ((v : Int) == 114) = true := by simp; omega
            have HN : Hid (suRun (s.data.toList.drop (k + 1)) (F + panN M) (panN M) = suRun s.data.toList 0 P) := by
              have h := HS1.out
              rw [show afMn M v = panN M by simp [afMn, c2], show afFn F M v = F + panN M by simp [afFn, c2], if_neg (by omega)] at h
              exact h
            have hq0 : (((panN M : Nat) : Int) == 0) = false := by simp; omega
            generalize panN M = q at *
            clear HS1
            go_wp2_with (go_at_call 59; refine (HB.out _).mono ?_; rintro e wx ⟨rfl, rfl⟩)
            go_round
            case rel => exact ⟨k + 1, F + q, q, by omega, by go_num, by go_num, rfl, by omega, by omega, HN.out⟩
            case measure => simp [intOf]; omega
          · have c2i : ((v : Int) == 114) = false := by simp; omega
            by_cases c3 : v = 61
            · have c3i : ((v : Int) == 61) = true := by simp; omega
              have HS2 : Hid ((if M - 2 * panN M = 0 then none else suRun (s.data.toList.drop (k + 1)) (F + 2 * panN M) (M - 2 * panN M)) = suRun s.data.toList 0 P) := by
                have h := HS1.out
                rw [show afMn M v = M - 2 * panN M by simp [afMn, c3], show afFn F M v = F + 2 * panN M by simp [afFn, c3]] at h
                exact h
              clear HS1
              generalize panN M = q at *
              by_cases c4 : M - 2 * q = 0
              · have HN : Hid (bxN P s = (0, 0, false)) := by
                  have h := HS2.out
                  rw [if_pos c4] at h
                  simp only [Hid, bxN, ← h]
                have hq0 : (((M : Int) - 2 * (q : Int)) == 0) = true := by simp; omega
                clear HS2 c4
                go_wp2_with (go_at_call 59; refine (HB.out _).mono ?_; rintro e wx ⟨rfl, rfl⟩)
                go_ret3
                exact ⟨by rw [HN.out]; rfl, rfl⟩
              · have HN : Hid (suRun (s.data.toList.drop (k + 1)) (F + 2 * q) (M - 2 * q) = suRun s.data.toList 0 P) := by
                  have h := HS2.out
                  rw [if_neg c4] at h
                  exact h
                have hq0 : (((M : Int) - 2 * (q : Int)) == 0) = false := by simp; omega
                clear HS2
                go_wp2_with (go_at_call 59; refine (HB.out _).mono ?_; rintro e wx ⟨rfl, rfl⟩)
                go_round
                case rel => exact ⟨k + 1, F + 2 * q, M - 2 * q, by omega, by go_num, by (first | (congr 1; done) | (congr 1; omega)), by (first | (congr 1; done) | (congr 1; omega)), by omega, by omega, HN.out⟩
                case measure => simp [intOf]; omega
            · have c3i : ((v : Int) == 61) = false := by simp; omega
              have HN : Hid (bxN P s = (0, 0, false)) := by
                have h := HS1.out
                rw [if_pos (by simp [afMn, c1, c2, c3])] at h
                simp only [Hid, bxN, ← h]
              clear HS1
              generalize panN M = q at *
              go_wp2_with (go_at_call 59; refine (HB.out _).mono ?_; rintro e wx ⟨rfl, rfl⟩)
              go_ret3
              exact ⟨by rw [HN.out]; rfl, rfl⟩
    · have HE : Hid (bxN P s = (F, M, true)) := by
        have h := hT.out
        rw [List.drop_of_length_le (by simp; omega)] at h
        simp only [suRun] at h
        simp only [Hid, bxN, ← h]
      have hki : ¬ (k : Int) < (s.size : Int) := by omega
      clear hT
      go_wp2
      go_ret3
      exact ⟨by rw [HE.out]; rfl, rfl⟩

set_option maxRecDepth 100000 in
set_option maxHeartbeats 2000000 in
theorem sSuspects_any (p : Int) (s : ByteArray) (w : World) (hs : s.size ≤ 1048576) :
    Calls Try.prog 37 #[.int .i64 p, .string s] w fun e w' => ∃ A' n' c', e = .returned (.tuple #[.slice A' n' c', .bool (suB p s)]) ∧ w'.ownsRow w.heap.size 3 1 (.slice A' n' c') n' (intCells (suR p s)) ∧ Below w.heap.size w w' := by
  cases h1 : inB p 1 1000
  · rw [(suRB_no h1).1, (suRB_no h1).2]
    go_enter Try.func37, Try.ntmps37
    go_wp2_with (go_at_call 58; refine (bxWeighed_any _ _).mono ?_; rintro e wx ⟨rfl, rfl⟩; rw [h1])
    go_ret2
    exact ⟨none, 0, 0, rfl, World.ownsRow_nil _ _ _ _, Below.refl _ _⟩
  · obtain ⟨P, rfl, p1, p2⟩ := inB_nat (m := 1000) h1
    have HA := Lib.hid (fun wx => bxAfter_any P s p1 p2 hs wx)
    cases hr : suRun s.data.toList 0 P with
    | none =>
      rw [(suRB_none hr).1, (suRB_none hr).2]
      rw [show bxN P s = (0, 0, false) by simp [bxN, hr]] at HA
      go_enter Try.func37, Try.ntmps37
      go_wp2_with first | (go_at_call 58; refine (bxWeighed_any _ _).mono ?_; rintro e wx ⟨rfl, rfl⟩; rw [h1]) | (go_at_call 61; refine (HA.out _).mono ?_; rintro e wx ⟨rfl, rfl⟩)
      go_ret2
      exact ⟨none, 0, 0, rfl, World.ownsRow_nil _ _ _ _, Below.refl _ _⟩
    | some fm =>
      obtain ⟨F, M⟩ := fm
      rw [(suRB_some h1 hr).1, (suRB_some h1 hr).2]
      have hle := suRun_le (P := P) _ 0 P F M (by omega) p1 hr
      rw [show bxN P s = (F, M, true) by simp [bxN, hr]] at HA
      obtain ⟨i0, hi, hz0, hz1, hz2⟩ := info_parts int_infoU
      have HRR := Lib.hid hr
      clear hr
      go_enter Try.func37, Try.ntmps37
      go_wp2_with first | (go_at_call 58; refine (bxWeighed_any _ _).mono ?_; rintro e wx ⟨rfl, rfl⟩; rw [h1]) | (go_at_call 61; refine (HA.out _).mono ?_; rintro e wx ⟨rfl, rfl⟩)
      go_loopw [9, 10] (fun v i wr => ∃ (k : Nat) (A' : Option Addr) (c' : Nat), k ≤ M ∧ i = .int .i64 k ∧ v = .slice A' k c' ∧ wr.ownsRow w.heap.size 3 1 (.slice A' k c') k (intCells (suL F k)) ∧ Below w.heap.size w wr) (fun _ i _ => M - (intOf i).toNat)
      case atStart => exact ⟨0, none, 0, Nat.zero_le _, rfl, rfl, World.ownsRow_nil _ _ _ _, Below.refl _ _⟩
      case round =>
        obtain ⟨k, A', c', hk, rfl, rfl, hown, hB⟩ := hrel
        have sB := hB.size
        by_cases hlt : k < M
        · have HE := Lib.hid (suL_succ F k)
          have hc3 : k + 1 ≤ maxLen := by simp only [maxLen]; omega
          go_wp2_with (at_builtin; refine wpList_append_own _ rfl (.tmp 28) (.tmp 32) 25 rfl w.heap.size 3 i0 (.int .i64 0) 1 8 Try.underlying25 hi hz0 hz1 hz2 rfl (by decide) _ _ _ rfl (hown.alloc _) ⟨wr.heap.size, 0, none⟩ 1 1 [.int .i64 ((F : Int) + (k : Int))] rfl rfl (new1 _ _ _) (int_oneCell [_]) hc3 (by omega) (Nat.le_trans sB (show wr.heap.size ≤ _ by simp)) ?_)
          intro v' w2 hown' hgrow _
          have hb2 := gb_new (Nat.le_refl _) (hB.alloc (by omega) (.cells #[.int .i64 ((F : Int) + (k : Int))] 3)) hgrow (fun g hg => (hown.lt g hg).1)
          obtain ⟨A2, c2', rfl⟩ := own_slice hown'
          clear hgrow hown hB hc3
          go_wp2
          go_roundw
          case rel => exact ⟨k + 1, A2, c2', by omega, by go_num, rfl, by rw [HE.out, intCells_append]; exact hown', hb2⟩
          case measure => simp [intOf]; omega
        · go_wp2
          go_ret2
          have : k = M := by omega
          subst this
          exact ⟨A', k, c', rfl, hown, hB⟩

set_option maxRecDepth 100000 in
set_option maxHeartbeats 4000000 in
theorem suspects_any (p : Int) (s : ByteArray) (w : World) (hs : s.size ≤ 1048576) :
    Calls Try.prog 38 #[.int .i64 p, .string s] w fun e w' => ∃ A' n' c', e = .returned (.tuple #[.slice A' n' c', .bool (suB p s)]) ∧ w'.ownsRow w.heap.size 3 1 (.slice A' n' c') n' (intCells (suR p s)) ∧ Below w.heap.size w w' := by
  cases h1 : inB p 1 1000
  · rw [(suRB_no h1).1, (suRB_no h1).2]
    go_enter Try.func38, Try.ntmps38
    go_wp2_with (go_at_call 46; refine (upToW_any _ _ _).mono ?_; rintro e wx ⟨rfl, rfl⟩; rw [h1])
    go_ret2
    exact ⟨none, 0, 0, rfl, World.ownsRow_nil _ _ _ _, Below.refl _ _⟩
  · obtain ⟨P, rfl, p1, p2⟩ := inB_nat (m := 1000) h1
    obtain ⟨i0, hi, hz0, hz1, hz2⟩ := info_parts int_infoU
    have HH1 := Lib.hid h1
    go_enter Try.func38, Try.ntmps38
    go_wp2_with (go_at_call 46; refine (upToW_any _ _ _).mono ?_; rintro e wx ⟨rfl, rfl⟩; rw [h1])
    go_loopw [7, 17] (fun _ i wr => ∃ k F M : Nat, k ≤ s.size ∧ i = .int .i64 k ∧ w.heap.size < wr.heap.size ∧ wr.cell? ⟨w.heap.size, 0, none⟩ = some (.int .i64 (F : Int)) ∧ wr.cell? ⟨w.heap.size, 1, none⟩ = some (.int .i64 (M : Int)) ∧ wr.frozen? ⟨w.heap.size, 0, none⟩ = false ∧ wr.frozen? ⟨w.heap.size, 1, none⟩ = false ∧ F + M ≤ P ∧ 1 ≤ M ∧ Hid (suRun (s.data.toList.drop k) F M = suRun s.data.toList 0 P) ∧ Below w.heap.size w wr) (fun _ i _ => s.size - (intOf i).toNat)
    case atStart => exact ⟨0, 0, P, Nat.zero_le _, rfl, by simp, by simp [go_sem], by simp [go_sem], by simp [go_sem], by simp [go_sem], by omega, p1, by simp [Hid], by (repeat (first | (with_reducible exact Below.refl _ _) | (with_reducible assumption) | (with_reducible refine Below.drew ?_) | ((with_reducible refine balloc ?_ _ ?_); · (first | (simp; done) | (simp; omega) | omega)) | ((with_reducible refine bset ?_ _ ?_); · (first | (simp; done) | (simp; omega) | omega)) | (with_reducible refine bdrewN _ ?_) | ((with_reducible refine bcall ?_ (by assumption) ?_); · (first | (simp; done) | (simp; omega) | omega))))⟩
    case round =>
      obtain ⟨k, F, M, hk, rfl, hwl, c0, c1, f0, f1, hFM, hM1, hT, hB⟩ := hrel
      have hM : M ≤ 1000 := by omega
      by_cases hlt : k < s.size
      · have HS := Lib.hid ((su_step hlt).symm.trans hT.out)
        by_cases hm : M = 1
        · have HN : Hid (suRun s.data.toList 0 P = none) := by
            have h := HS.out
            rw [if_pos hm] at h
            exact h.symm
          have hmi : ((M : Int) == 1) = true := by simp; omega
          clear hT hm
          go_wp2
          go_ret2
          exact ⟨none, 0, 0, by rw [(suRB_none HN.out).2]; rfl, by rw [(suRB_none HN.out).1]; exact World.ownsRow_nil _ _ _ _, hB⟩
        · have hM2 : 2 ≤ M := by omega
          have hmi : ((M : Int) == 1) = false := by simp; omega
          have HS1 : Hid ((if afMn M (s[k]).toNat = 0 then none else suRun (s.data.toList.drop (k + 1)) (afFn F M (s[k]).toNat) (afMn M (s[k]).toNat)) = suRun s.data.toList 0 P) := by
            have h := HS.out
            rw [if_neg hm] at h
            exact h
          have HA := Lib.hid (fun wx => after_any F M (s[k]).toNat (by omega) hM wx)
          rw [afF_n, afM_n _ hM2] at HA
          have hsum := af_sum (F := F) (v := (s[k]).toNat) hM2
          have hb8 : (s[k]).toNat < 256 := (s[k]).toNat_lt
          clear hT hm HS
          go_wp2
          go_still_tail 4, (by kernel_rfl)
          change wpList _ _ _ _ _ wr.drew
          have d0 : wr.drew.cell? ⟨w.heap.size, 0, none⟩ = some (.int .i64 (F : Int)) := c0
          have d1 : wr.drew.cell? ⟨w.heap.size, 1, none⟩ = some (.int .i64 (M : Int)) := c1
          have g0 : wr.drew.frozen? ⟨w.heap.size, 0, none⟩ = false := f0
          have g1 : wr.drew.frozen? ⟨w.heap.size, 1, none⟩ = false := f1
          have hwd : w.heap.size < wr.drew.heap.size := hwl
          have hBd := hB.drew
          clear c0 c1 f0 f1 hwl hB
          generalize wr.drew = wd at *
          generalize (s[k]).toNat = v at *
          go_wp2_with fail
          refine (HA.out _).mono ?_; rintro e w3 ⟨rfl, hb3⟩
          have s3 := hb3.size
          have k0 : w3.cell? ⟨w.heap.size, 0, none⟩ = some (.int .i64 (F : Int)) := (hb3.cell (p := ⟨w.heap.size, 0, none⟩) hwd).trans d0
          have k1 : w3.cell? ⟨w.heap.size, 1, none⟩ = some (.int .i64 (M : Int)) := (hb3.cell (p := ⟨w.heap.size, 1, none⟩) hwd).trans d1
          have r0 : w3.frozen? ⟨w.heap.size, 0, none⟩ = false := (hb3.frozen (p := ⟨w.heap.size, 0, none⟩) hwd).trans g0
          have r1 : w3.frozen? ⟨w.heap.size, 1, none⟩ = false := (hb3.frozen (p := ⟨w.heap.size, 1, none⟩) hwd).trans g1
          have hw3 : w.heap.size < w3.heap.size := by omega
          have hB3 : Below w.heap.size w w3 := hBd.trans (hb3.mono (by omega))
          clear d0 d1 g0 g1 hb3 hBd
          by_cases hz : afMn M v = 0
          · have HN : Hid (suRun s.data.toList 0 P = none) := by
              have h := HS1.out
              rw [if_pos hz] at h
              exact h.symm
            have hzi : (((afMn M v : Nat) : Int) == 0) = true := by simp; omega
            clear HS1 hz
            generalize afMn M v = m2 at *
            generalize afFn F M v = f2 at *
            go_wp2
            go_ret2
            exact ⟨none, 0, 0, by rw [(suRB_none HN.out).2]; rfl, by rw [(suRB_none HN.out).1]; exact World.ownsRow_nil _ _ _ _, by (repeat (first | (with_reducible exact Below.refl _ _) | (with_reducible assumption) | (with_reducible refine Below.drew ?_) | ((with_reducible refine balloc ?_ _ ?_); · (first | (simp; done) | (simp; omega) | omega)) | ((with_reducible refine bset ?_ _ ?_); · (first | (simp; done) | (simp; omega) | omega)) | (with_reducible refine bdrewN _ ?_) | ((with_reducible refine bcall ?_ (by assumption) ?_); · (first | (simp; done) | (simp; omega) | omega))))⟩
          · have HN : Hid (suRun (s.data.toList.drop (k + 1)) (afFn F M v) (afMn M v) = suRun s.data.toList 0 P) := by
              have h := HS1.out
              rw [if_neg hz] at h
              exact h
            have hzi : (((afMn M v : Nat) : Int) == 0) = false := by simp; omega
            have hzp1 : 1 ≤ afMn M v := by omega
            clear HS1 hz
            generalize afMn M v = m2 at *
            generalize afFn F M v = f2 at *
            go_wp2
            go_roundw
            case rel => exact ⟨k + 1, f2, m2, by omega, by go_num, by simp; omega, (World.cell?_setCell_other _ _ _ _ (fun e => by injection e; omega)).trans (World.cell?_setCell_same _ _ _ k0), World.cell?_setCell_same _ _ _ ((World.cell?_setCell_other _ _ _ _ (fun e => by injection e; omega)).trans k1), by simp [r0], by simp [r1], by omega, hzp1, HN.out, by (repeat (first | (with_reducible exact Below.refl _ _) | (with_reducible assumption) | (with_reducible refine Below.drew ?_) | ((with_reducible refine balloc ?_ _ ?_); · (first | (simp; done) | (simp; omega) | omega)) | ((with_reducible refine bset ?_ _ ?_); · (first | (simp; done) | (simp; omega) | omega)) | (with_reducible refine bdrewN _ ?_) | ((with_reducible refine bcall ?_ (by assumption) ?_); · (first | (simp; done) | (simp; omega) | omega))))⟩
            case measure => simp [intOf]; omega
      · have HE : Hid (suRun s.data.toList 0 P = some (F, M)) := by
          have h := hT.out
          rw [List.drop_of_length_le (by simp; omega)] at h
          simp only [suRun] at h
          exact h.symm
        have hki : ¬ (k : Int) < (s.size : Int) := by omega
        have HBR := Lib.hid hB
        clear hT hB
        obtain ⟨wo, rfl⟩ : ∃ wo, wo = wr := ⟨_, rfl⟩
        go_wp2_with (at_make; refine wpList_make_full _ rfl (.tmp 33) (.tmp 33) 25 rfl wo.heap.size 3 i0 (.int .i64 0) 1 Try.underlying25 hi hz0 hz1 .i64 .i64 _ _ M rfl rfl rfl rfl ?b2 ?b3 (Nat.le_refl _) ?_)
        case b2 => first | (rw [hz2]; omega) | omega
        case b3 => simp only [maxLen]; omega
        intro w2 hown hgrow
        have hb2 : Below wo.heap.size wo w2 := (Below.refl _ _).grown hgrow (Nat.le_refl _) (fun k hk => by cases hk)
        have s2 := hb2.size
        have hown2 : w2.ownsRow wo.heap.size 3 1 (.slice (some ⟨wo.heap.size, 0, none⟩) M M) M (intCells (suP F M 0)) := by
          have e : (madeCells #[Value.int IntKind.i64 0] M).toList = intCells (suP F M 0) := by
            rw [suP_zero, toList_madeCells_one]
            simp [intCells]
          rw [← e]
          exact hown
        have HO := Lib.hid hown2
        have HB2 : Hid (Below w.heap.size w w2) := HBR.out.trans (hb2.mono (by omega))
        have E0 : Hid (w2.cell? ⟨w.heap.size, 0, none⟩ = some (.int .i64 (F : Int))) := (hb2.cell (p := ⟨w.heap.size, 0, none⟩) hwl).trans c0
        clear hgrow hown hown2 hb2 c0 c1 f0 f1
        go_wp2
        go_loopw [9, 37] (fun _ i wq => ∃ m : Nat, m ≤ M ∧ i = .int .i64 (m : Int) ∧ wq.ownsRow wo.heap.size 3 1 (.slice (some ⟨wo.heap.size, 0, none⟩) M M) M (intCells (suP F M m)) ∧ wq.cell? ⟨w.heap.size, 0, none⟩ = some (.int .i64 (F : Int)) ∧ Below w.heap.size w wq) (fun _ i _ => M - (intOf i).toNat)
        case atStart => exact ⟨0, Nat.zero_le _, rfl, HO.out, E0.out, HB2.out⟩
        case round =>
          clear HO E0 HB2
          obtain ⟨m, hmM, rfl, hown, e0, hB⟩ := hrel
          by_cases hlt2 : m < M
          · have a0 := hown.cellAt m (by omega)
            have lcs : (intCells (suP F M m)).length = M := by rw [length_intCells, length_suP]
            rw [List.getElem?_eq_getElem (by omega)] at a0
            generalize (intCells (suP F M m))[m]'(by omega) = v0 at a0
            have fz0 := hown.frozenAt m
            have st := hown.stored m (.int .i64 ((F : Int) + (m : Int)))
            rw [set_intCells, suP_set hlt2] at st
            have ST := Lib.hid st.1
            have hne : (⟨wo.heap.size, m, none⟩ : Addr) ≠ ⟨w.heap.size, 0, none⟩ := fun e => by injection e; omega
            have HX := Lib.hid ((World.cell?_setCell_other wr _ _ (.int .i64 ((F : Int) + (m : Int))) hne).trans e0)
            clear st hown lcs
            go_wp2
            go_roundw
            case rel => exact ⟨m + 1, by omega, by go_num, ST.out, HX.out, by (repeat (first | (with_reducible exact Below.refl _ _) | (with_reducible assumption) | (with_reducible refine Below.drew ?_) | ((with_reducible refine balloc ?_ _ ?_); · (first | (simp; done) | (simp; omega) | omega)) | ((with_reducible refine bset ?_ _ ?_); · (first | (simp; done) | (simp; omega) | omega)) | (with_reducible refine bdrewN _ ?_) | ((with_reducible refine bcall ?_ (by assumption) ?_); · (first | (simp; done) | (simp; omega) | omega))))⟩
            case measure => simp [intOf]; omega
          · have hmM2 : m = M := by omega
            subst hmM2
            rw [suP_all] at hown
            have HO := Lib.hid hown
            have HBB := Lib.hid hB
            clear hown hB
            go_wp2
            go_ret2
            exact ⟨_, m, m, by rw [(suRB_some HH1.out HE.out).2]; rfl, by rw [(suRB_some HH1.out HE.out).1]; exact own_base HO.out (by omega), HBB.out⟩

end Go.Proofs.Ytcggiekhlophlaa
