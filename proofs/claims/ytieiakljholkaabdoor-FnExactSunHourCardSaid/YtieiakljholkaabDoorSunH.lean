/-
  Contracts: SunHour of the program and of the model. Conditions: the library's greatest length holds a number.
-/
import Derived.Test.YtieiakljholkaabDoorSideT
import Derived.Test.YtieiakljholkaabDoorParseT
import Derived.Test.YtieiakljholkaabDoorLibR
namespace Go.Proofs.YtieiakljholkaabDoor
open Go.RowKit
set_option linter.unusedVariables false
set_option linter.unusedSimpArgs false

/-- the tablet behind an hour of a sun, or nothing -/
def sunR (ss : List ByteArray) (s : ByteArray) : List ByteArray := if sdOk ss s then tabF (tabW ss) ss.length (sunG (tabW ss) ss.length (sideK s) (tq ss)) else []
theorem sunR_no {ss : List ByteArray} {s : ByteArray} (h : sdOk ss s = false) : sunR ss s = [] := by simp [sunR, h]
theorem sunR_yes {ss : List ByteArray} {s : ByteArray} {W n : Nat} (hb : TB ss W n) (h : sdOk ss s = true) : sunR ss s = tabF W n (sunG W n (sideK s) (tq ss)) := by simp [sunR, h, hb.headW, hb.len]
theorem length_sunR (ss : List ByteArray) (s : ByteArray) : (sunR ss s).length ≤ 10 := by
  unfold sunR
  split
  · rename_i h
    simp only [sdOk, Bool.and_eq_true] at h
    rw [length_tabF]
    exact (TB.of h.1).h10
  · simp

set_option maxHeartbeats 1000000 in
theorem sSunHour_any (A : Option Addr) (n c : Nat) (ss : List ByteArray) (s : ByteArray) (w : World) (hr : Rd w 1 A n (strCells ss)) (_hs : s.size ≤ maxLen) (hsz : ∀ s ∈ ss, s.size ≤ 9223372036854775807) :
    Calls Tryd.prog 16 #[.slice A n c, .string s] w fun e w' => ∃ A' n' c', e = .returned (.tuple #[.slice A' n' c', .bool (sdOk ss s)]) ∧ w'.ownsRow w.heap.size 9 1 (.slice A' n' c') n' (strCells (sunR ss s)) ∧ Below w.heap.size w w' := by
  have HG := Lib.hid (mlSide_any A n c ss s w hr hsz)
  clear hsz
  cases hB : sdOk ss s
  · rw [hB] at HG
    rw [sunR_no hB]
    go_enter Tryd.func16, Tryd.ntmps16
    go_wp2_with fail
    refine HG.out.mono ?_; rintro e w1 ⟨rfl, rfl⟩
    go_wp2
    go_ret2
    exact ⟨none, 0, 0, rfl, World.ownsRow_nil _ _ _ _, Below.refl _ _⟩
  · rw [hB] at HG
    have hB2 := hB
    simp only [sdOk, Bool.and_eq_true] at hB2
    have hb := TB.of hB2.1
    rw [hr.slen] at hb
    rw [sunR_yes hb hB]
    have HO := Lib.hid (mlSun_any A n c _ ss s w hr hb hB2.2)
    clear hB hB2
    go_enter Tryd.func16, Tryd.ntmps16
    go_wp2_with fail
    refine HG.out.mono ?_; rintro e w1 ⟨rfl, rfl⟩
    go_wp2_with fail
    refine HO.out.mono ?_; rintro e w1 ⟨A1, c1, rfl, own1, hb1⟩
    go_wp2
    go_ret2
    exact ⟨A1, n, c1, rfl, own1, hb1⟩

theorem side_at {c : UInt8} (h : c = 108 ∨ c = 100 ∨ c = 114 ∨ c = 117) : ∃ k : Nat, k ≤ 3 ∧ sideK ⟨#[c]⟩ = k ∧ Lib.indexByte [108, 100, 114, 117] c = (k : Int) := by
  rcases h with rfl | rfl | rfl | rfl
  · exact ⟨0, by omega, by simp [sideK], rfl⟩
  · exact ⟨1, by omega, by simp [sideK, one_inj], rfl⟩
  · exact ⟨2, by omega, by simp [sideK, one_inj], rfl⟩
  · exact ⟨3, by omega, by simp [sideK, one_inj], rfl⟩
/-- the first k rows lit -/
def litP (g : Nat → Nat → Bool) (k : Nat) : Nat → Nat → Bool := fun y x => if y < k then litG g y x else g y x
theorem litP_row {W n k : Nat} {g : Nat → Nat → Bool} (hk : k < n) : (tabF W n (litP g k)).set k (rowF W (fun x => g k x && (List.range x).any (g k))) = tabF W n (litP g (k + 1)) := by
  apply List.ext_getElem
  · simp [tabF]
  · intro j h1 h2
    rw [List.getElem_set]
    have e2 : (tabF W n (litP g (k + 1)))[j] = rowF W (litP g (k + 1) j) := by simp [tabF]
    rw [e2]
    by_cases e : k = j
    · subst e
      rw [if_pos rfl]
      exact rowF_congr fun i _ => by simp [litP, litG]
    · rw [if_neg e]
      have e3 : ∀ h, (tabF W n (litP g k))[j]'h = rowF W (litP g k j) := fun h => by simp [tabF]
      rw [e3]
      refine rowF_congr fun i _ => ?_
      unfold litP
      by_cases q : j < k
      · rw [if_pos q, if_pos (by omega)]
      · rw [if_neg q, if_neg (by omega)]
theorem litP_at {W n k : Nat} {g : Nat → Nat → Bool} (hk : k < n) : ∀ h, (tabF W n (litP g k))[k]'h = rowF W (g k) := by
  intro h
  have e3 : (tabF W n (litP g k))[k] = rowF W (litP g k k) := by simp [tabF]
  rw [e3]
  exact rowF_congr fun i _ => by simp [litP]
theorem litP_zero (g : Nat → Nat → Bool) : litP g 0 = g := by funext y x; simp [litP]
theorem litP_end {W n : Nat} {g : Nat → Nat → Bool} : tabF W n (litP g n) = tabF W n (litG g) := tabF_congr fun y hy x hx => by simp [litP, hy]

set_option maxRecDepth 100000 in
set_option maxHeartbeats 2000000 in
theorem sunHour_any (A : Option Addr) (n c : Nat) (ss : List ByteArray) (s : ByteArray) (w : World) (hr : Rd w 1 A n (strCells ss)) (_hs : s.size ≤ maxLen) (hsz : ∀ s ∈ ss, s.size ≤ 9223372036854775807) (a0 : Addr) (hLM : LaidM w a0) :
    Calls Tryd.prog 17 #[.slice A n c, .string s] w fun e w' => ∃ A' n' c', e = .returned (.tuple #[.slice A' n' c', .bool (sdOk ss s)]) ∧ w'.ownsRow w.heap.size 9 1 (.slice A' n' c') n' (strCells (sunR ss s)) ∧ Below w.heap.size w w' := by
  have HG := Lib.hid (canShine_any A n c ss s w hr hsz)
  clear hsz
  cases hB : sdOk ss s
  · rw [hB] at HG
    rw [sunR_no hB]
    go_enter Tryd.func17, Tryd.ntmps17
    go_wp2_with fail
    refine HG.out.mono ?_; rintro e w1 ⟨rfl, hb1⟩
    go_wp2
    go_ret2
    exact ⟨none, 0, 0, rfl, World.ownsRow_nil _ _ _ _, hb1⟩
  · rw [hB] at HG
    have hB2 := hB
    simp only [sdOk, Bool.and_eq_true] at hB2
    have hb := TB.of hB2.1
    rw [hr.slen] at hb
    rw [sunR_yes hb hB]
    obtain ⟨ch, rfl, hch⟩ := sideB_true hB2.2
    obtain ⟨k, hk3, hkS, hkI⟩ := side_at hch
    rw [hkS]
    have hn1 := hb.h1
    have hn10 := hb.h10
    have hW1 := hb.w1
    have hW10 := hb.w10
    generalize tabW ss = W at *
    have HIX := Lib.hid (fun wx => Tryd.strings_Index_one ⟨#[108, 100, 114, 117]⟩ ch wx)
    have HIE : Hid (Lib.indexByte (⟨#[108, 100, 114, 117]⟩ : ByteArray).data.toList ch = (k : Int)) := hkI
    rw [HIE.out] at HIX
    have hrF : Rd w 1 A n (strCells (tabF W n (tq ss))) := by rw [← hb.eq]; exact hr
    have HST := Lib.hid (sun_turned W n k hk3 (tq ss))
    generalize tq ss = g at *
    have HT := Lib.hid (fun wx h => turnTab_any A n c W k g wx h hn1 hn10 hW1 hW10 (by omega))
    have HMX : Hid (0 + 1 ≤ w.heap.size) := hLM.2.2
    obtain ⟨⟨mx, hmx⟩, _, _⟩ := hLM
    clear hB hB2 hch hkS hkI HIE
    have hW'1 : 1 ≤ tW W n k ∧ tW W n k ≤ 10 ∧ 1 ≤ tW n W k ∧ tW n W k ≤ 10 := by unfold tW; split <;> omega
    have hWd : Hid (tW (tW W n k) (tW n W k) (4 - k) = W ∧ tW (tW n W k) (tW W n k) (4 - k) = n) := by
      simp only [Hid]
      rcases (show k = 0 ∨ k = 1 ∨ k = 2 ∨ k = 3 by omega) with rfl | rfl | rfl | rfl <;> exact ⟨rfl, rfl⟩
    have HR : Hid (∀ (f : Nat → Bool) (W' : Nat) (wx : World), W' ≤ 10 → wx.cell? ⟨0, 0, none⟩ = some (.int .i64 mx) → Calls Tryd.prog 43 #[.string (rowF W' f), .string ⟨#[35]⟩, .string ⟨#[46]⟩, .int .i64 1] wx fun e w' => e = .returned (.string (rowF W' (fun x => f x && (List.range x).any f))) ∧ Below wx.heap.size wx w') := by
      intro f W' wx hW' hm
      have hcnt : Lib.countB (rowF W' f) ⟨#[35]⟩ ≤ 10 := by
        have e := Lib.count_one 35 (rowF W' f).data.toList
        have l := List.count_le_length (a := (35 : UInt8)) (l := (rowF W' f).data.toList)
        have sz : (rowF W' f).data.toList.length = W' := by rw [Array.length_toList]; exact size_rowF W' f
        show Lib.count (rowF W' f).data.toList [35] ≤ 10
        rw [e]; omega
      have h := Tryd.strings_Replace (rowF W' f) ⟨#[35]⟩ ⟨#[46]⟩ 1 mx wx (by rw [size_rowF]; omega) hm (by decide) (by rw [size_rowF]; show W' + Lib.countB (rowF W' f) ⟨#[35]⟩ * 1 ≤ _; omega)
      have e := replace_row W' f
      have e2 : (⟨#[35]⟩ : ByteArray).data.toList = [35] := rfl
      have e3 : (⟨#[46]⟩ : ByteArray).data.toList = [46] := rfl
      rw [e2, e3, e] at h
      exact h
    obtain ⟨W2, hW2⟩ : ∃ W2, Hid (W2 = tW W n k) := ⟨_, rfl⟩
    obtain ⟨n2, hn2⟩ : ∃ n2, Hid (n2 = tW n W k) := ⟨_, rfl⟩
    obtain ⟨g2, hg2⟩ : ∃ g2, Hid (g2 = tG W n g k) := ⟨_, rfl⟩
    rw [← hW2.out, ← hn2.out] at hWd hW'1 HST
    rw [← hg2.out] at HST
    rw [← hW2.out, ← hn2.out, ← hg2.out] at HT
    obtain ⟨a1, a2, a3, a4⟩ := hW'1
    have HTB := Lib.hid (fun A c wx h => turnTab_any A n2 c W2 (4 - k) (litG g2) wx h a3 a4 a1 a2 (by omega))
    rw [hWd.out.1, hWd.out.2] at HTB
    go_enter Tryd.func17, Tryd.ntmps17
    go_wp2_with fail
    refine HG.out.mono ?_; rintro e w1 ⟨rfl, hb1⟩
    have s1 := hb1.size
    go_wp2_with fail
    refine (HIX.out _).mono ?_; rintro e wx ⟨rfl, rfl⟩
    go_wp2_with fail
    refine (HT.out _ (hrF.later hb1 (Nat.le_refl _))).mono ?_; rintro e w2 ⟨A2, c2, rfl, own2, hb2⟩
    have hb3 : Below w.heap.size w w2 := hb1.trans (hb2.mono s1)
    have own3 := own_base own2 s1
    have s3 := hb3.size
    obtain ⟨gg, rfl, hg1, hg2'⟩ := own_at own3 (by omega)
    clear own2 hb2 hb1
    go_wp2
    go_loopw [21] (fun v wr => ∃ j : Nat, j ≤ n2 ∧ v = .int .i64 j ∧ wr.ownsRow w.heap.size 9 1 (.slice (some ⟨gg, 0, none⟩) n2 c2) n2 (strCells (tabF W2 n2 (litP g2 j))) ∧ Below w.heap.size w wr) (fun v _ => n2 - (intOf v).toNat)
    case atStart => exact ⟨0, Nat.zero_le _, rfl, by rw [litP_zero]; exact own3, hb3⟩
    case round =>
      clear own3
      obtain ⟨j, hj, rfl, hown, hB⟩ := hrel
      have sB := hB.size
      by_cases hlt : j < n2
      · have hrd := Rd.of_own hown
        obtain ⟨hx, p⟩ := hrd.strAt hlt
        rw [litP_at hlt] at p
        simp only [Nat.zero_add] at p
        have hmr : wr.cell? ⟨0, 0, none⟩ = some (.int .i64 mx) := (hB.cell (p := ⟨0, 0, none⟩) (Nat.lt_of_succ_le HMX.out)).trans hmx
        have HRR := Lib.hid (HR.out (g2 j) W2 wr a2 hmr)
        have HRW := Lib.hid (litP_row (W := W2) (g := g2) hlt)
        generalize rowF W2 (g2 j) = r0 at *
        generalize rowF W2 (fun x => g2 j x && (List.range x).any (g2 j)) = r1 at *
        clear hrd
        go_wp2_with fail
        refine HRR.out.mono ?_; rintro e w4 ⟨rfl, hb4⟩
        have own4 := own_later hown hb4 (Nat.le_refl _)
        have hB4 := hB.trans (hb4.mono sB)
        have g4 := own4.lt gg (by simp [Value.ownBlock])
        have a0 := own4.cellAt j (by omega)
        have hlen : j < (strCells (tabF W2 n2 (litP g2 j))).length := by rw [length_strCells, length_tabF]; exact hlt
        rw [List.getElem?_eq_getElem hlen] at a0
        have f0 := own4.frozenAt j
        have st := own4.stored j (.string r1)
        rw [set_strCells, HRW.out] at st
        have ST := Lib.hid st.1
        clear st own4 hown hb4
        generalize (strCells (tabF W2 n2 (litP g2 j)))[j] = v0 at a0
        go_wp2
        go_roundw
        case rel => exact ⟨j + 1, by omega, by go_num, ST.out, bset hg1 _ hB4⟩
        case measure => simp [intOf]; omega
      · have hjn : j = n2 := by omega
        rw [hjn, litP_end] at hown
        have e4k : ((4 : Int) - (k : Int)) = ((4 - k : Nat) : Int) := by omega
        go_wp2_with fail
        refine (HTB.out _ _ _ (Rd.of_own hown)).mono ?_; rintro e w5 ⟨A5, c5, rfl, own5, hb5⟩
        have HE : Hid (tabF W n (tG W2 n2 (litG g2) (4 - k)) = tabF W n (sunG W n k g)) := tabF_congr HST.out
        rw [HE.out] at own5
        go_wp2
        go_ret2
        exact ⟨A5, n, c5, rfl, own_base own5 sB, hB.trans (hb5.mono sB)⟩

end Go.Proofs.YtieiakljholkaabDoor
