/-
  Contracts: TabletText of the program and of the model.
-/
import Derived.Test.YtieiakljholkaabDoorTabG
import Derived.Test.YtieiakljholkaabDoorLibJ
namespace Go.Proofs.YtieiakljholkaabDoor
open Go.RowKit
set_option linter.unusedVariables false

/-- the first k rows with / between them -/
def textK (ss : List ByteArray) : Nat → ByteArray
  | 0 => ⟨#[]⟩
  | k + 1 => (if k = 0 then textK ss k else textK ss k ++ ⟨#[47]⟩) ++ ss.getD k ByteArray.empty
theorem textK_tail (x : ByteArray) (r : List ByteArray) (k : Nat) (h : k ≤ r.length) : (textK (x :: r) (k + 1)).data.toList = x.data.toList ++ Lib.joinTail [47] ((r.map (·.data.toList)).take k) := by
  induction k with
  | zero =>
    show ((⟨#[]⟩ : ByteArray) ++ x).data.toList = _
    simp [Lib.joinTail]
  | succ k ih =>
    have hk : k < r.length := by omega
    have e : (r.map (·.data.toList))[k]? = some (r[k].data.toList) := by simp [hk]
    rw [Lib.joinTail_take_succ _ _ _ _ e]
    have g : (x :: r).getD (k + 1) ByteArray.empty = r[k] := by simp [hk]
    show ((if k + 1 = 0 then textK (x :: r) (k + 1) else textK (x :: r) (k + 1) ++ ⟨#[47]⟩) ++ (x :: r).getD (k + 1) ByteArray.empty).data.toList = _
    rw [if_neg (by omega), g]
    simp only [ByteArray.data_append, Array.toList_append, ih (by omega), List.append_assoc]
theorem textK_join (ss : List ByteArray) : (⟨(Lib.join (ss.map (·.data.toList)) [47]).toArray⟩ : ByteArray) = textK ss ss.length := by
  cases ss with
  | nil => rfl
  | cons x r =>
    have h := textK_tail x r r.length (Nat.le_refl _)
    rw [List.take_of_length_le (by simp)] at h
    rw [List.map_cons, Lib.join_cons, ← h]
    rfl
theorem textK_size {ss : List ByteArray} (h : ∀ s ∈ ss, s.size ≤ 10) (k : Nat) : (textK ss k).size ≤ 11 * k := by
  induction k with
  | zero => exact Nat.zero_le _
  | succ k ih =>
    have g : (ss.getD k ByteArray.empty).size ≤ 10 := by
      by_cases hk : k < ss.length
      · have e : ss.getD k ByteArray.empty = ss[k] := by simp [hk]
        rw [e]; exact h _ (List.getElem_mem hk)
      · have e : ss.getD k ByteArray.empty = ByteArray.empty := by simp [List.getD, List.getElem?_eq_none (Nat.le_of_not_lt hk)]
        rw [e]; exact Nat.zero_le _
    simp only [textK]
    split
    · rw [ByteArray.size_append]; omega
    · rw [ByteArray.size_append, ByteArray.size_append]
      have : (⟨#[47]⟩ : ByteArray).size = 1 := rfl
      omega
theorem textK_first {ss : List ByteArray} {s : ByteArray} (h : ss[0]? = some s) : textK ss 1 = s := by
  have e : ss.getD 0 ByteArray.empty = s := by simp [List.getD, h]
  show (⟨#[]⟩ : ByteArray) ++ ss.getD 0 ByteArray.empty = s
  rw [e]
  apply ByteArray.ext
  simp
theorem textK_next {ss : List ByteArray} {s : ByteArray} {k : Nat} (h : ss[k]? = some s) (hk : k ≠ 0) : textK ss (k + 1) = textK ss k ++ ⟨#[47]⟩ ++ s := by
  have e : ss.getD k ByteArray.empty = s := by simp [List.getD, h]
  simp only [textK, e, if_neg hk]
def textR (ss : List ByteArray) : ByteArray := if tabB ss then textK ss ss.length else ⟨#[]⟩
abbrev textV (s : ByteArray) (ok : Bool) : Value := .tuple #[.string s, .bool ok]

set_option maxRecDepth 100000 in
set_option maxHeartbeats 1000000 in
theorem mlText_any (A : Option Addr) (n c W : Nat) (ss : List ByteArray) (w : World) (hr : Rd w 1 A n (strCells ss)) (hb : TB ss W n) :
    Calls Tryd.prog 57 #[.slice A n c] w fun e w' => e = .returned (.string (textK ss n)) ∧ w = w' := by
  have hn10 := hb.h10
  have hsz : ∀ s ∈ ss, s.size ≤ 10 := fun s hs => by have := (hb.row s hs).1; have := hb.w10; omega
  have HT := Lib.hid (textK_size hsz)
  have HSZ := Lib.hid hsz
  have hl := hr.slen
  have HL := Lib.hid hl
  clear hsz hl
  go_enter Tryd.func57, Tryd.ntmps57
  go_wp2
  go_loop [3, 8] (fun t i => ∃ k : Nat, k ≤ n ∧ i = .int .i64 k ∧ t = .string (textK ss k)) (fun _ i => n - (intOf i).toNat)
  case atStart => exact ⟨0, Nat.zero_le _, rfl, rfl⟩
  case round =>
    obtain ⟨k, hk, rfl, rfl⟩ := hrel
    have ht := HT.out k
    by_cases hlt : k < n
    · obtain ⟨b, o, rfl, _, hx, p⟩ := hr.str hlt
      have hs8 := HSZ.out _ (List.getElem_mem hx)
      have hget : ss[k]? = some ss[k] := List.getElem?_eq_getElem hx
      by_cases h0 : k = 0
      · subst h0
        simp only [Nat.add_zero] at p
        have HE := Lib.hid (textK_first hget)
        clear hget ht
        generalize ss[0] = s at *
        have e0 : textK ss 0 = ⟨#[]⟩ := rfl
        rw [e0]
        go_wp2
        go_round
        case rel => exact ⟨1, by omega, by go_num, by rw [HE.out]; first | rfl | (congr 1; apply ByteArray.ext; simp)⟩
        case measure => simp [intOf]; omega
      · have HE := Lib.hid (textK_next hget h0)
        clear hget
        generalize ss[k] = s at *
        generalize textK ss k = tk at *
        have h0' : (0 : Int) < k := by omega
        have hs1 : (tk ++ (⟨#[47]⟩ : ByteArray)).size = tk.size + 1 := by rw [ByteArray.size_append]; rfl
        go_wp2
        go_round
        case rel => exact ⟨k + 1, by omega, by go_num, by rw [HE.out]⟩
        case measure => simp [intOf]; omega
    · have hkn : k = n := by omega
      subst hkn
      go_wp2
      go_ret
      exact ⟨rfl, rfl⟩

set_option maxHeartbeats 1000000 in
theorem sTabletText_any (A : Option Addr) (n c : Nat) (ss : List ByteArray) (w : World) (hr : Rd w 1 A n (strCells ss)) (hc : n ≤ c) (hsz : ∀ s ∈ ss, s.size ≤ 9223372036854775807) :
    Calls Tryd.prog 28 #[.slice A n c] w fun e w' => e = .returned (textV (textR ss) (tabB ss)) ∧ w = w' := by
  have HSZ := Lib.hid hsz
  clear hsz
  cases hB : tabB ss
  · have hR : textR ss = ⟨#[]⟩ := by simp [textR, hB]
    rw [hR]
    clear hR
    go_enter Tryd.func28, Tryd.ntmps28
    go_wp2_with fail
    refine (mlGood_any _ _ _ _ _ hr HSZ.out).mono ?_; rintro e w1 ⟨rfl, rfl⟩
    rw [hB]
    go_wp2
    refine bodyPost_ret (v := textV ⟨#[]⟩ false) (by simp [results, Tryd.results28, go_sem]) rfl ⟨rfl, rfl⟩
  · have hb := TB.of hB
    have hl := hr.slen
    have hR : textR ss = textK ss n := by rw [textR, hB, hl]; rfl
    rw [hl] at hb
    rw [hR]
    clear hR hl
    go_enter Tryd.func28, Tryd.ntmps28
    go_wp2_with fail
    refine (mlGood_any _ _ _ _ _ hr HSZ.out).mono ?_; rintro e w1 ⟨rfl, rfl⟩
    rw [hB]
    go_wp2_with fail
    refine (mlText_any _ _ _ _ ss _ hr hb).mono ?_; rintro e w1 ⟨rfl, rfl⟩
    go_wp2
    refine bodyPost_ret (v := textV (textK ss n) true) (by simp [results, Tryd.results28, go_sem]) rfl ⟨rfl, rfl⟩

set_option maxHeartbeats 1000000 in
theorem tabText_any (A : Option Addr) (n c : Nat) (ss : List ByteArray) (w : World) (hr : Rd w 1 A n (strCells ss)) (hc : n ≤ c) (hsz : ∀ s ∈ ss, s.size ≤ 9223372036854775807) :
    Calls Tryd.prog 29 #[.slice A n c] w fun e w' => e = .returned (textV (textR ss) (tabB ss)) ∧ Below w.heap.size w w' := by
  have HSZ := Lib.hid hsz
  clear hsz
  cases hB : tabB ss
  · have hR : textR ss = ⟨#[]⟩ := by simp [textR, hB]
    rw [hR]
    clear hR
    go_enter Tryd.func29, Tryd.ntmps29
    go_wp2_with fail
    refine (isTablet_any _ _ _ _ _ hr HSZ.out).mono ?_; rintro e w1 ⟨rfl, hb0⟩
    rw [hB]
    go_wp2
    refine bodyPost_ret (v := textV ⟨#[]⟩ false) (by simp [results, Tryd.results29, go_sem]) rfl ⟨rfl, hb0⟩
  · have hb := TB.of hB
    have hl := hr.slen
    have hR : textR ss = textK ss n := by rw [textR, hB, hl]; rfl
    rw [hl] at hb
    rw [hR]
    clear hR
    subst hl
    have hn10 := hb.h10
    have hn1 := hb.h1
    have hsz10 : ∀ s ∈ ss, s.size ≤ 10 := fun s hs => by have := (hb.row s hs).1; have := hb.w10; omega
    have ht := textK_size hsz10 ss.length
    have hj := textK_join ss
    obtain ⟨b, o, rfl, hbl, _⟩ := hr.2 (by omega)
    have HC : Hid (∀ wx : World, Rd wx 1 (some ⟨b, o, none⟩) ss.length (strCells ss) → b < wx.heap.size → Calls Tryd.prog 58 #[.slice (some ⟨b, o, none⟩) ss.length c, .string ⟨#[47]⟩] wx fun e w' => e = .returned (.string (textK ss ss.length)) ∧ Below wx.heap.size wx w') := by
      intro wx hrx hbx
      obtain ⟨b', o', e', _, hcell⟩ := hrx.2 (by omega)
      simp only [Option.some.injEq, Addr.mk.injEq, and_true] at e'
      obtain ⟨rfl, rfl⟩ := e'
      have hjl : (Lib.join (ss.map (·.data.toList)) [47]).length ≤ 140737488355328 := by
        have e : (Lib.join (ss.map (·.data.toList)) [47]).length = (textK ss ss.length).size := by rw [← hj]; rfl
        omega
      have hcall := Tryd.strings_Join b o c ss ⟨#[47]⟩ wx (fun j x hx => hcell j _ (by simp [strCells, hx])) hbx (by omega) hc hjl
      have e47 : (⟨#[47]⟩ : ByteArray).data.toList = [47] := rfl
      rw [e47, hj] at hcall
      exact hcall
    clear hj ht hsz10
    generalize textK ss ss.length = T at *
    generalize ss.length = n at *
    go_enter Tryd.func29, Tryd.ntmps29
    go_wp2_with fail
    refine (isTablet_any _ _ _ _ _ hr HSZ.out).mono ?_; rintro e w1 ⟨rfl, hb0⟩
    rw [hB]
    go_wp2_with fail
    refine (HC.out _ (hr.later hb0 (Nat.le_refl _)) (by have := hb0.size; omega)).mono ?_; rintro e w2 ⟨rfl, hb1⟩
    go_wp2
    refine bodyPost_ret (v := textV T true) (by simp [results, Tryd.results29, go_sem]) rfl ⟨rfl, hb0.trans (hb1.mono hb0.size)⟩

end Go.Proofs.YtieiakljholkaabDoor
