/-
  Contracts: whether a list of texts is a bar with nuts, of the program and of the model.
-/
import Derived.Test.YtobncknlipeinaaStrs
namespace Go.Proofs.Ytobncknlipeinaa
open Go.RowKit

def digB (c : UInt8) : Bool := decide (48 ≤ c.toNat ∧ c.toNat ≤ 57)
def rowB (s : ByteArray) : Bool := decide (1 ≤ s.size ∧ s.size ≤ 8) && s.data.toList.all digB
def okR (s0 s : ByteArray) : Bool := decide (s.size = s0.size) && rowB s
def nutsB (ss : List ByteArray) : Bool := decide (1 ≤ ss.length ∧ ss.length ≤ 8) && ss.all (okR (ss.headD ByteArray.empty))

theorem nutsB_short {ss : List ByteArray} (h : ss.length < 1) : nutsB ss = false := by
  unfold nutsB; rw [decide_eq_false (by omega)]; rfl
theorem nutsB_long {ss : List ByteArray} (h : 8 < ss.length) : nutsB ss = false := by
  unfold nutsB; rw [decide_eq_false (by omega)]; rfl
theorem headD_at {ss : List ByteArray} (h : 0 < ss.length) : ss.headD ByteArray.empty = ss[0] := by
  cases ss with
  | nil => simp at h
  | cons a r => rfl
theorem nutsB_bad {ss : List ByteArray} {k : Nat} {s0 s : ByteArray} (h0 : 0 < ss.length) (hk : k < ss.length) (e0 : ss[0] = s0) (e : ss[k] = s) (h : okR s0 s = false) : nutsB ss = false := by
  unfold nutsB
  rw [headD_at h0, e0]
  have : ss.all (okR s0) = false := by
    rw [List.all_eq_false]
    exact ⟨s, by rw [← e]; exact List.getElem_mem hk, by rw [h]; simp⟩
  rw [this, Bool.and_false]
theorem nutsB_good {ss : List ByteArray} {s0 : ByteArray} (h0 : 0 < ss.length) (h8 : ss.length ≤ 8) (e0 : ss[0] = s0) (h : ss.all (okR s0) = true) : nutsB ss = true := by
  unfold nutsB
  rw [headD_at h0, e0, h, decide_eq_true (by omega)]
  rfl
theorem all_take_step {α : Type} {l : List α} {p : α → Bool} {k : Nat} {a : α} (hk : k < l.length) (e : l[k] = a) (h : (l.take k).all p = true) (ha : p a = true) : (l.take (k + 1)).all p = true := by
  rw [List.take_succ_eq_append_getElem hk, List.all_append, h, e]
  simp [ha]

theorem rowB_size {s : ByteArray} (h : ¬ (1 ≤ s.size ∧ s.size ≤ 8)) : rowB s = false := by
  unfold rowB; rw [decide_eq_false h]; rfl
theorem rowB_bad {s : ByteArray} {k : Nat} (hk : k < s.size) (h : ¬ (48 ≤ (s[k]).toNat ∧ (s[k]).toNat ≤ 57)) : rowB s = false := by
  unfold rowB
  have : s.data.toList.all digB = false := by
    rw [List.all_eq_false]
    refine ⟨s.data.toList[k]'(by simpa using hk), List.getElem_mem _, ?_⟩
    have e : s.data.toList[k]'(by simpa using hk) = s[k] := rfl
    rw [e]
    simp [digB]
    omega
  rw [this, Bool.and_false]
theorem rowB_good {s : ByteArray} (h1 : 1 ≤ s.size) (h8 : s.size ≤ 8) (h : (s.data.toList.take s.size).all digB = true) : rowB s = true := by
  unfold rowB
  rw [List.take_of_length_le (by show s.data.toList.length ≤ s.data.size; simp)] at h
  rw [h, decide_eq_true ⟨h1, h8⟩]
  rfl
theorem rowB_step {s : ByteArray} {k : Nat} (hk : k < s.size) (h : (s.data.toList.take k).all digB = true) (h1 : 48 ≤ (s[k]).toNat) (h2 : (s[k]).toNat ≤ 57) : (s.data.toList.take (k + 1)).all digB = true :=
  all_take_step (a := s[k]) (by simpa using hk) rfl h (by simp [digB]; omega)

theorem Rd.strAt {w : World} {n k b o : Nat} {xs : List ByteArray} (h : Rd w 1 (some ⟨b, o, none⟩) n (strCells xs)) (hk : k < n) : ∃ hx : k < xs.length, w.cell? ⟨b, o + k, none⟩ = some (.string xs[k]) := by
  obtain ⟨b', o', e, _, hx, hc⟩ := h.str hk
  simp only [Option.some.injEq, Addr.mk.injEq, and_true] at e
  obtain ⟨rfl, rfl⟩ := e
  exact ⟨hx, hc⟩

set_option maxHeartbeats 400000 in
theorem isNutRow_any (s : ByteArray) (w : World) :
    Calls Try.prog 49 #[.string s] w fun e w' => e = .returned (.bool (rowB s)) ∧ w = w' := by
  by_cases h1 : 1 ≤ s.size
  · by_cases h8 : s.size ≤ 8
    · go_enter Try.func49, Try.ntmps49
      go_wp2
      go_loop [14] (fun i => ∃ k : Nat, k ≤ s.size ∧ i = .int .i64 k ∧ Hid ((s.data.toList.take k).all digB = true)) (fun i => s.size - (intOf i).toNat)
      case atStart => exact ⟨0, Nat.zero_le _, rfl, by simp [Hid]⟩
      case round =>
        obtain ⟨k, hk, rfl, hT⟩ := hrel
        by_cases hlt : k < s.size
        · by_cases c1 : 48 ≤ (s[k]).toNat
          · by_cases c2 : (s[k]).toNat ≤ 57
            · have HS := Lib.hid (rowB_step hlt hT.out c1 c2)
              go_wp2
              go_round
              case rel => exact ⟨k + 1, by omega, by go_num, HS⟩
              case measure => simp [intOf]; omega
            · have HB := Lib.hid (rowB_bad hlt (by omega))
              go_wp2
              go_ret
              exact ⟨ret_bool (by rw [HB.out]), rfl⟩
          · have HB := Lib.hid (rowB_bad hlt (by omega))
            go_wp2
            go_ret
            exact ⟨ret_bool (by rw [HB.out]), rfl⟩
        · go_wp2
          go_ret
          have : k = s.size := by omega
          subst this
          exact ⟨ret_bool (by rw [rowB_good h1 h8 hT.out]), rfl⟩
    · go_enter Try.func49, Try.ntmps49
      go_wp2
      go_ret
      exact ⟨ret_bool (by rw [rowB_size (by omega)]), rfl⟩
  · go_enter Try.func49, Try.ntmps49
    go_wp2
    go_ret
    exact ⟨ret_bool (by rw [rowB_size (by omega)]), rfl⟩

set_option maxHeartbeats 400000 in
theorem areNuts_any (A : Option Addr) (n c : Nat) (ss : List ByteArray) (w : World) (hr : Rd w 1 A n (strCells ss)) :
    Calls Try.prog 36 #[.slice A n c] w fun e w' => e = .returned (.bool (nutsB ss)) ∧ w = w' := by
  have hl := hr.slen
  have HL := Lib.hid hl
  clear hl
  by_cases h1 : 1 ≤ n
  · by_cases h8 : n ≤ 8
    · obtain ⟨b, o, rfl, _, hx0, p0⟩ := hr.str h1
      simp only [Nat.add_zero] at p0
      generalize hq0 : ss[0] = s0 at *
      have HQ0 := Lib.hid hq0
      clear hq0
      go_enter Try.func36, Try.ntmps36
      go_wp2
      go_loop [15] (fun i => ∃ k : Nat, k ≤ n ∧ i = .int .i64 k ∧ Hid ((ss.take k).all (okR s0) = true)) (fun i => n - (intOf i).toNat)
      case atStart => exact ⟨0, Nat.zero_le _, rfl, by simp [Hid]⟩
      case round =>
        obtain ⟨k, hk, rfl, hT⟩ := hrel
        by_cases hlt : k < n
        · obtain ⟨hx, p⟩ := hr.strAt hlt
          generalize hq : ss[k] = s at *
          have HQ := Lib.hid hq
          clear hq
          by_cases hs : s.size = s0.size
          · have HS := Lib.hid hs
            have e1 : ((s.size : Int) == (s0.size : Int)) = true := by simp [hs]
            have e2 : ((s.size : Int) != (s0.size : Int)) = false := by simp [hs]
            clear hs
            cases hB : rowB s
            · have HB := Lib.hid hB
              go_wp2_with fail
              refine (isNutRow_any _ _).mono ?_; rintro e w1 ⟨rfl, rfl⟩
              go_wp2
              go_ret
              exact ⟨ret_bool (by rw [nutsB_bad (by omega) hx HQ0.out HQ.out (by simp [okR, HB.out])]), rfl⟩
            · have HB := Lib.hid hB
              go_wp2_with fail
              refine (isNutRow_any _ _).mono ?_; rintro e w1 ⟨rfl, rfl⟩
              go_wp2
              go_round
              case rel => exact ⟨k + 1, by omega, by go_num, all_take_step hx HQ.out hT.out (by simp [okR, HB.out, HS.out])⟩
              case measure => simp [intOf]; omega
          · have HS := Lib.hid hs
            have e1 : ((s.size : Int) == (s0.size : Int)) = false := by simp; omega
            have e2 : ((s.size : Int) != (s0.size : Int)) = true := by simp; omega
            clear hs
            go_wp2
            go_ret
            exact ⟨ret_bool (by rw [nutsB_bad (by omega) hx HQ0.out HQ.out (by simp [okR, HS.out])]), rfl⟩
        · go_wp2
          go_ret
          have : k = n := by omega
          subst this
          have h := hT.out
          have l := HL.out
          rw [List.take_of_length_le (by omega)] at h
          exact ⟨ret_bool (by rw [nutsB_good (by omega) (by omega) HQ0.out h]), rfl⟩
    · go_enter Try.func36, Try.ntmps36
      go_wp2
      go_ret
      exact ⟨ret_bool (by rw [nutsB_long (by rw [HL.out]; omega)]), rfl⟩
  · go_enter Try.func36, Try.ntmps36
    go_wp2
    go_ret
    exact ⟨ret_bool (by rw [nutsB_short (by rw [HL.out]; omega)]), rfl⟩

set_option maxHeartbeats 1000000 in
theorem ntGood_any (A : Option Addr) (n c : Nat) (ss : List ByteArray) (w : World) (hr : Rd w 1 A n (strCells ss)) :
    Calls Try.prog 34 #[.slice A n c] w fun e w' => e = .returned (.bool (nutsB ss)) ∧ w = w' := by
  have hl := hr.slen
  have HL := Lib.hid hl
  clear hl
  by_cases h1 : 1 ≤ n
  · by_cases h8 : n ≤ 8
    · have tn : inB n 1 8 = true := by simp [inB]; omega
      obtain ⟨b, o, rfl, _, hx0, p0⟩ := hr.str h1
      simp only [Nat.add_zero] at p0
      generalize hq0 : ss[0] = s0 at *
      have HQ0 := Lib.hid hq0
      clear hq0
      by_cases hz : 1 ≤ s0.size ∧ s0.size ≤ 8
      · have tz : inB s0.size 1 8 = true := by simp [inB]; omega
        obtain ⟨z1, z8⟩ := hz
        go_enter Try.func34, Try.ntmps34
        go_wp2_with fail
        refine (l1In_any _ _ _ _).mono ?_; rintro e w1 ⟨rfl, rfl⟩
        go_wp2_with fail
        refine (l1In_any _ _ _ _).mono ?_; rintro e w1 ⟨rfl, rfl⟩
        go_wp2
        go_loop [20] (fun i => ∃ k : Nat, k ≤ n ∧ i = .int .i64 k ∧ Hid ((ss.take k).all (okR s0) = true)) (fun i => n - (intOf i).toNat)
        case atStart => exact ⟨0, Nat.zero_le _, rfl, by simp [Hid]⟩
        case round =>
          obtain ⟨k, hk, rfl, hT⟩ := hrel
          by_cases hlt : k < n
          · obtain ⟨hx, p⟩ := hr.strAt hlt
            generalize hq : ss[k] = s at *
            have HQ := Lib.hid hq
            clear hq
            by_cases hs : s.size = s0.size
            · have HS := Lib.hid hs
              have e1 : ((s.size : Int) == (s0.size : Int)) = true := by simp [hs]
              have e2 : ((s.size : Int) != (s0.size : Int)) = false := by simp [hs]
              have y1 : 1 ≤ s.size := by omega
              have y8 : s.size ≤ 8 := by omega
              clear hs
              go_wp2
              go_loop [5] (fun j => ∃ m : Nat, m ≤ s.size ∧ j = .int .i64 m ∧ Hid ((s.data.toList.take m).all digB = true)) (fun j => s.size - (intOf j).toNat)
              case atStart => exact ⟨0, Nat.zero_le _, rfl, by simp [Hid]⟩
              case round =>
                obtain ⟨m, hm, rfl, hU⟩ := hrel
                by_cases hlm : m < s.size
                · by_cases c1 : 48 ≤ (s[m]).toNat
                  · by_cases c2 : (s[m]).toNat ≤ 57
                    · have HV := Lib.hid (rowB_step hlm hU.out c1 c2)
                      go_wp2
                      go_round
                      case rel => exact ⟨m + 1, by omega, by go_num, HV⟩
                      case measure => simp [intOf]; omega
                    · have HB := Lib.hid (rowB_bad hlm (by omega))
                      go_wp2
                      go_ret
                      exact ⟨ret_bool (by rw [nutsB_bad (by omega) hx HQ0.out HQ.out (by simp [okR, HB.out])]), rfl⟩
                  · have HB := Lib.hid (rowB_bad hlm (by omega))
                    go_wp2
                    go_ret
                    exact ⟨ret_bool (by rw [nutsB_bad (by omega) hx HQ0.out HQ.out (by simp [okR, HB.out])]), rfl⟩
                · have : m = s.size := by omega
                  subst this
                  have HB := Lib.hid (rowB_good y1 y8 hU.out)
                  go_wp2
                  go_round
                  case rel => exact ⟨k + 1, by omega, by go_num, all_take_step hx HQ.out hT.out (by simp [okR, HB.out, HS.out])⟩
                  case measure => simp [intOf]; omega
            · have HS := Lib.hid hs
              have e1 : ((s.size : Int) == (s0.size : Int)) = false := by simp; omega
              have e2 : ((s.size : Int) != (s0.size : Int)) = true := by simp; omega
              clear hs
              go_wp2
              go_ret
              exact ⟨ret_bool (by rw [nutsB_bad (by omega) hx HQ0.out HQ.out (by simp [okR, HS.out])]), rfl⟩
          · go_wp2
            go_ret
            have : k = n := by omega
            subst this
            have h := hT.out
            have l := HL.out
            rw [List.take_of_length_le (by omega)] at h
            exact ⟨ret_bool (by rw [nutsB_good (by omega) (by omega) HQ0.out h]), rfl⟩
      · have tz : inB s0.size 1 8 = false := by simp [inB]; omega
        go_enter Try.func34, Try.ntmps34
        go_wp2_with fail
        refine (l1In_any _ _ _ _).mono ?_; rintro e w1 ⟨rfl, rfl⟩
        go_wp2_with fail
        refine (l1In_any _ _ _ _).mono ?_; rintro e w1 ⟨rfl, rfl⟩
        go_wp2
        go_ret
        exact ⟨ret_bool (by rw [nutsB_bad (by omega) hx0 HQ0.out HQ0.out (by simp [okR, rowB_size hz])]), rfl⟩
    · have tn : inB n 1 8 = false := by simp [inB]; omega
      go_enter Try.func34, Try.ntmps34
      go_wp2_with fail
      refine (l1In_any _ _ _ _).mono ?_; rintro e w1 ⟨rfl, rfl⟩
      go_wp2
      go_ret
      exact ⟨ret_bool (by rw [nutsB_long (by rw [HL.out]; omega)]), rfl⟩
  · have tn : inB n 1 8 = false := by simp [inB]; omega
    go_enter Try.func34, Try.ntmps34
    go_wp2_with fail
    refine (l1In_any _ _ _ _).mono ?_; rintro e w1 ⟨rfl, rfl⟩
    go_wp2
    go_ret
    exact ⟨ret_bool (by rw [nutsB_short (by rw [HL.out]; omega)]), rfl⟩


end Go.Proofs.Ytobncknlipeinaa
