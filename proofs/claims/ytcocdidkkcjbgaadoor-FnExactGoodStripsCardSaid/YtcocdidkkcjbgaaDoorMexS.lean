/-
  Words and contracts: the least number that is not in a list; slices.Contains, leastMissing, and the model's l1Has.
-/
import Derived.Test.YtcocdidkkcjbgaaDoorStrs
namespace Go.Proofs.YtcocdidkkcjbgaaDoor
open Go.RowKit
set_option linter.unusedVariables false

theorem getD_lt {l : List Int} {k : Nat} (h : k < l.length) : l.getD k 0 = l[k] := by simp [List.getD, List.getElem?_eq_getElem h]
theorem nodup_len {α : Type} [DecidableEq α] : ∀ {S T : List α}, S.Nodup → (∀ x ∈ S, x ∈ T) → S.length ≤ T.length
  | [], T, _, _ => Nat.zero_le _
  | a :: S, T, h, hs => by
    have h1 := List.nodup_cons.1 h
    have h2 : ∀ x ∈ S, x ∈ T.erase a := fun x hx => (List.mem_erase_of_ne (fun e => by subst e; exact h1.1 hx)).2 (hs x (List.mem_cons_of_mem _ hx))
    have h3 := nodup_len h1.2 h2
    have h4 : a ∈ T := hs a (List.mem_cons_self ..)
    rw [List.length_erase_of_mem h4] at h3
    have := List.length_pos_of_mem h4
    simp only [List.length_cons]
    omega

/-- m is the least number that is not in a list -/
def IsMex (L : List Int) (m : Nat) : Prop := (m : Int) ∉ L ∧ ∀ j, j < m → (j : Int) ∈ L
theorem IsMex.le {L : List Int} {m : Nat} (h : ∀ j, j < m → (j : Int) ∈ L) : m ≤ L.length := by
  have hn : ((List.range m).map fun (j : Nat) => (j : Int)).Nodup := by
    rw [List.nodup_iff_pairwise_ne, List.pairwise_map]
    exact List.nodup_range.imp (fun h e => h (by omega))
  have := nodup_len hn (T := L) (fun x hx => by
    obtain ⟨j, hj, rfl⟩ := List.mem_map.1 hx
    exact h j (List.mem_range.1 hj))
  simpa using this
def mexF : Nat → Nat → List Int → Nat
  | 0, k, _ => k
  | f + 1, k, L => if (k : Int) ∈ L then mexF f (k + 1) L else k
def mexL (L : List Int) : Nat := mexF (L.length + 1) 0 L
theorem mexF_is {L : List Int} {m : Nat} (h : IsMex L m) : ∀ (f k : Nat), k ≤ m → m - k ≤ f → mexF f k L = m
  | 0, k, hk, hf => by have : k = m := by omega
                       exact this
  | f + 1, k, hk, hf => by
    unfold mexF
    by_cases e : k = m
    · subst e; rw [if_neg h.1]
    · rw [if_pos (h.2 k (by omega))]
      exact mexF_is h f (k + 1) (by omega) (by omega)
theorem mexL_is {L : List Int} {m : Nat} (h : IsMex L m) : mexL L = m := mexF_is h _ 0 (Nat.zero_le _) (by have := IsMex.le h.2; omega)
theorem mexF_le (L : List Int) : ∀ f k, mexF f k L ≤ k + f
  | 0, k => Nat.le_refl _
  | f + 1, k => by
    unfold mexF
    split
    · have := mexF_le L f (k + 1); omega
    · omega

set_option maxRecDepth 100000 in
set_option maxHeartbeats 1000000 in
theorem slIndex_any (A : Option Addr) (n c : Nat) (L : List Int) (v : Int) (w : World) (hr : Rd w 1 A n (intCells L)) (hn : n ≤ 1000000) :
    Calls Tryd.prog 94 #[.slice A n c, .int .i64 v] w fun e w' => (∃ i : Int, e = .returned (.int .i64 i) ∧ (v ∈ L → 0 ≤ i ∧ i ≤ 1000000) ∧ (v ∉ L → i = -1)) ∧ w = w' := by
  have hll := hr.ilen
  have HLL := Lib.hid hll
  clear hll
  go_enter Tryd.func94, Tryd.ntmps94
  go_wp2
  go_loop [8] (fun i => ∃ k : Nat, k ≤ n ∧ i = .int .i64 k ∧ Hid (∀ j, j < k → L.getD j 0 ≠ v)) (fun i => n - (intOf i).toNat)
  case atStart => exact ⟨0, Nat.zero_le _, rfl, fun j hj => absurd hj (by omega)⟩
  case round =>
    obtain ⟨k, hk, rfl, hT⟩ := hrel
    by_cases hlt : k < n
    · obtain ⟨b1, o1, rfl, _, hx, p1⟩ := hr.num hlt
      have HQ := Lib.hid (getD_lt hx)
      have HMM := Lib.hid (List.getElem_mem hx)
      generalize l0 : L[k] = z at *
      clear hx l0
      by_cases he : v = z
      · have hd : (v == z) = true := by simpa using he
        have HE := Lib.hid he
        clear he
        go_wp2
        go_ret
        exact ⟨⟨k, rfl, fun _ => by omega, fun h => absurd (by rw [HE.out]; exact HMM.out) h⟩, rfl⟩
      · have hd : (v == z) = false := by simpa using he
        have HE := Lib.hid he
        clear he
        go_wp2
        go_round
        case rel => exact ⟨k + 1, by omega, by go_num, fun j hj => by
          by_cases e : j = k
          · subst e; rw [HQ.out]; exact fun q => HE.out q.symm
          · exact hT.out j (by omega)⟩
        case measure => simp [intOf]; omega
    · go_wp2
      go_ret
      have hkn : k = n := by omega
      subst hkn
      refine ⟨⟨-1, rfl, fun h => ?_, fun _ => rfl⟩, rfl⟩
      obtain ⟨j, hj, e⟩ := List.getElem_of_mem h
      exact absurd (by rw [getD_lt hj]; exact e) (hT.out j (by have := HLL.out; omega))

set_option maxHeartbeats 400000 in
theorem contains_any (A : Option Addr) (n c : Nat) (L : List Int) (v : Int) (w : World) (hr : Rd w 1 A n (intCells L)) (hn : n ≤ 1000000) :
    Calls Tryd.prog 75 #[.slice A n c, .int .i64 v] w fun e w' => e = .returned (.bool (decide (v ∈ L))) ∧ w = w' := by
  by_cases hm : v ∈ L
  · rw [decide_eq_true hm]
    have HM := Lib.hid hm
    clear hm
    go_enter Tryd.func75, Tryd.ntmps75
    go_wp2_with fail
    refine (slIndex_any _ _ _ _ _ _ hr hn).mono ?_; rintro e wx ⟨⟨i, rfl, h1, h2⟩, rfl⟩
    have h3 := (h1 HM.out).1
    clear h1 h2
    go_wp2
    go_ret
    exact ⟨rfl, rfl⟩
  · rw [decide_eq_false hm]
    have HM := Lib.hid hm
    clear hm
    go_enter Tryd.func75, Tryd.ntmps75
    go_wp2_with fail
    refine (slIndex_any _ _ _ _ _ _ hr hn).mono ?_; rintro e wx ⟨⟨i, rfl, h1, h2⟩, rfl⟩
    have h3 := h2 HM.out
    subst h3
    clear h1 h2
    go_wp2
    go_ret
    exact ⟨rfl, rfl⟩

set_option maxRecDepth 100000 in
set_option maxHeartbeats 1000000 in
theorem leastMissing_any (A : Option Addr) (n c : Nat) (L : List Int) (w : World) (hr : Rd w 1 A n (intCells L)) (hn : n ≤ 1000000) :
    Calls Tryd.prog 58 #[.slice A n c] w fun e w' => e = .returned (.int .i64 (mexL L : Nat)) ∧ w = w' := by
  have hll := hr.ilen
  have HLL := Lib.hid hll
  clear hll
  have HC := Lib.hid (fun v => contains_any A n c L v w hr hn)
  go_enter Tryd.func58, Tryd.ntmps58
  go_wp2
  go_loop [3] (fun i => ∃ k : Nat, k ≤ n ∧ i = .int .i64 k ∧ Hid (∀ j, j < k → (j : Int) ∈ L)) (fun i => n + 1 - (intOf i).toNat)
  case atStart => exact ⟨0, Nat.zero_le _, rfl, fun j hj => absurd hj (by omega)⟩
  case round =>
    obtain ⟨k, hk, rfl, hT⟩ := hrel
    by_cases hm : (k : Int) ∈ L
    · have HM := Lib.hid (decide_eq_true hm)
      have hT2 : Hid (∀ j, j < k + 1 → (j : Int) ∈ L) := fun j hj => by
        by_cases e : j = k
        · subst e; exact hm
        · exact hT.out j (by omega)
      have hk1 : k + 1 ≤ n := by have := IsMex.le hT2.out; have := HLL.out; omega
      clear hm
      go_wp2_with fail
      refine (HC.out _).mono ?_; rintro e wx ⟨rfl, rfl⟩
      rw [HM.out]
      go_wp2
      go_round
      case rel => exact ⟨k + 1, by omega, by go_num, hT2⟩
      case measure => simp [intOf]; omega
    · have HM := Lib.hid (decide_eq_false hm)
      have HX : Hid (mexL L = k) := mexL_is ⟨hm, hT.out⟩
      clear hm
      go_wp2_with fail
      refine (HC.out _).mono ?_; rintro e wx ⟨rfl, rfl⟩
      rw [HM.out]
      go_wp2
      go_ret
      exact ⟨by rw [HX.out]; rfl, rfl⟩

set_option maxRecDepth 100000 in
set_option maxHeartbeats 1000000 in
theorem l1Has_any (A : Option Addr) (n c : Nat) (L : List Int) (v : Int) (w : World) (hr : Rd w 1 A n (intCells L)) (hn : n ≤ 1000000) :
    Calls Tryd.prog 56 #[.slice A n c, .int .i64 v] w fun e w' => e = .returned (.bool (decide (v ∈ L))) ∧ w = w' := by
  have hll := hr.ilen
  have HLL := Lib.hid hll
  clear hll
  go_enter Tryd.func56, Tryd.ntmps56
  go_wp2
  go_loop [9] (fun i => ∃ k : Nat, k ≤ n ∧ i = .int .i64 k ∧ Hid (∀ j, j < k → L.getD j 0 ≠ v)) (fun i => n - (intOf i).toNat)
  case atStart => exact ⟨0, Nat.zero_le _, rfl, fun j hj => absurd hj (by omega)⟩
  case round =>
    obtain ⟨k, hk, rfl, hT⟩ := hrel
    by_cases hlt : k < n
    · obtain ⟨b1, o1, rfl, _, hx, p1⟩ := hr.num hlt
      have HQ := Lib.hid (getD_lt hx)
      have HMM := Lib.hid (List.getElem_mem hx)
      generalize l0 : L[k] = z at *
      clear hx l0
      by_cases he : z = v
      · have hd : (z == v) = true := by simpa using he
        have HE : Hid (decide (v ∈ L) = true) := by rw [Hid, ← he]; exact decide_eq_true HMM.out
        clear he
        go_wp2
        go_ret
        exact ⟨ret_bool HE.out.symm, rfl⟩
      · have hd : (z == v) = false := by simpa using he
        have HE := Lib.hid he
        clear he
        go_wp2
        go_round
        case rel => exact ⟨k + 1, by omega, by go_num, fun j hj => by
          by_cases e : j = k
          · subst e; rw [HQ.out]; exact HE.out
          · exact hT.out j (by omega)⟩
        case measure => simp [intOf]; omega
    · go_wp2
      go_ret
      have hkn : k = n := by omega
      subst hkn
      refine ⟨ret_bool (Eq.symm (decide_eq_false fun h => ?_)), rfl⟩
      obtain ⟨j, hj, e⟩ := List.getElem_of_mem h
      exact absurd (by rw [getD_lt hj]; exact e) (hT.out j (by have := HLL.out; omega))

end Go.Proofs.YtcocdidkkcjbgaaDoor
