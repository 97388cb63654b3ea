/-
  Contracts: BestTake, FirstTakes and GreedyTake of the model. Conditions: none.
-/
import Derived.Test.YtkijcpbjjbhnhaaTkG
import Derived.Test.YtkijcpbjjbhnhaaMinMax
namespace Go.Proofs.Ytkijcpbjjbhnhaa
open Go.RowKit
set_option linter.unusedVariables false
set_option linter.unusedSimpArgs false

theorem Rd.subW {w : World} {b o n : Nat} {l : List Int} (h : Rd w 1 (some ⟨b, o, none⟩) n (intCells l)) {i j : Nat} (hij : i ≤ j) (hj : j ≤ n) : Rd w 1 (some ⟨b, o + i, none⟩) (j - i) (intCells (subL l i j)) := by
  have hl := h.ilen
  refine ⟨by rw [length_intCells, subL_len (by omega)]; omega, fun hn => ?_⟩
  obtain ⟨b', o', e, hb, hc⟩ := h.2 (by omega)
  injection e with e; injection e with e1 e2
  subst e1 e2
  refine ⟨b, o + i, rfl, hb, fun k u hu => ?_⟩
  rw [Nat.add_assoc]
  have hk : k < j - i := by have := (List.getElem?_eq_some_iff.1 hu).1; rw [length_intCells, subL_len (by omega)] at this; omega
  refine hc _ _ ?_
  rw [← hu]
  simp only [intCells, List.getElem?_map, subL]
  rw [List.getElem?_take_of_lt hk, List.getElem?_drop]

set_option maxRecDepth 100000 in
set_option maxHeartbeats 4000000 in
theorem skTake_any (A : Option Addr) (n c : Nat) (l : List Int) (hn : n ≤ 20) (hc : n ≤ c) (hc2 : c ≤ 4000000000) (hl : ∀ z ∈ l, 0 ≤ z ∧ z ≤ 1000) : ∀ (d i j : Nat) (w : World), j - i = d → i ≤ j → j ≤ n → Rd w 1 A n (intCells l) →
    Calls Try.prog 57 #[.slice A n c, .int .i64 (i : Int), .int .i64 (j : Int)] w fun e w' => e = .returned (.int .i64 (tkO d (subL l i j))) ∧ w = w' := by
  intro d
  induction d with
  | zero =>
    intro i j w hd hij hj hr
    have e : i = j := by omega
    subst e
    clear hr
    go_enter Try.func57, Try.ntmps57
    go_wp2
    go_ret
    exact ⟨rfl, rfl⟩
  | succ d ih =>
    intro i j w hd hij hj hr
    have hll := hr.ilen
    have hne : ((i : Int) == (j : Int)) = false := by simp; omega
    obtain ⟨b1, o1, rfl, l1, hx0, p1⟩ := hr.num (show 0 < n by omega)
    have hci : ¬ (c - i = 0) := by omega
    have hlen : (subL l i j).length = d + 1 := by rw [subL_len (by omega)]; omega
    have hm := subL_mem (i := i) (j := j) hl
    have hsum := sumW_bound hm
    have h1 := tkO_in d (subL l i j).tail (by simp [hlen]) (mem_tailW hm)
    have h2 := tkO_in d (subL l i j).dropLast (by simp [hlen]) (mem_lastW hm)
    have HS := Lib.hid (fun c' wx (hr : Rd wx 1 (some ⟨b1, o1 + i, none⟩) (j - i) (intCells (subL l i j))) => skSum_any (some ⟨b1, o1 + i, none⟩) (j - i) c' (subL l i j) wx hr (by omega) hm)
    have H1 := Lib.hid (fun w hr => ih (i + 1) j w (by omega) (by omega) hj hr)
    have H2 := Lib.hid (fun w hr => ih i (j - 1) w (by omega) (by omega) (by omega) hr)
    rw [← subL_tail] at H1
    rw [← subL_last (by omega) (by omega)] at H2
    have HR := Lib.hid hr
    have HR2 := Lib.hid (hr.subW hij hj)
    simp only [tkO]
    rw [hlen] at hsum
    have e1 := sum_tailW (l := subL l i j) (by omega)
    have e2 := sum_lastW hlen
    have g1 := getD_in (l := subL l i j) (k := 0) (by omega) hm
    have g2 := getD_in (l := subL l i j) (k := d) (by omega) hm
    have b1' : 0 ≤ tkO d (subL l i j).tail ∧ tkO d (subL l i j).tail ≤ (subL l i j).sum := by omega
    have b2' : 0 ≤ tkO d (subL l i j).dropLast ∧ tkO d (subL l i j).dropLast ≤ (subL l i j).sum := by omega
    have b3' : (subL l i j).sum ≤ 21000 := by omega
    clear ih hr hx0 p1 hll hm hsum h1 h2 e1 e2 g1 g2 hlen
    generalize tkO d (subL l i j).tail = x1 at *
    generalize tkO d (subL l i j).dropLast = x2 at *
    generalize (subL l i j).sum = s at *
    obtain ⟨b1a, b1b⟩ := b1'
    obtain ⟨b2a, b2b⟩ := b2'
    have hijl : i < j := by omega
    have hjc : j ≤ c := by omega
    have hmin : 0 ≤ min x1 x2 ∧ min x1 x2 ≤ s := by omega
    obtain ⟨m, hmq⟩ : ∃ m, m = min x1 x2 := ⟨_, rfl⟩
    obtain ⟨hm1, hm2⟩ := hmin
    rw [← hmq] at hm1 hm2 ⊢
    have HM := Lib.hid hmq
    clear hmq hd
    go_enter Try.func57, Try.ntmps57
    go_wp2_with fail
    refine (HS.out _ _ HR2.out).mono ?_; rintro e wx ⟨rfl, rfl⟩
    go_wp2_with fail
    (try rw [show ((i : Int) + 1) = ((i + 1 : Nat) : Int) by omega])
    refine (H1.out _ HR.out).mono ?_; rintro e wx ⟨rfl, rfl⟩
    go_wp2_with fail
    (try rw [show ((j : Int) - 1) = ((j - 1 : Nat) : Int) by omega])
    refine (H2.out _ HR.out).mono ?_; rintro e wx ⟨rfl, rfl⟩
    go_wp2_with fail
    refine (l1Least_min _ _ _).mono ?_; rintro e wx ⟨rfl, rfl⟩
    rw [← HM.out]
    go_wp2
    go_ret
    exact ⟨rfl, rfl⟩

set_option maxRecDepth 100000 in
set_option maxHeartbeats 4000000 in
theorem sBestTake_any (A : Option Addr) (n c : Nat) (L : List Int) (w : World) (hr : Rd w 1 A n (intCells L)) (hn : n ≤ 4000000000) (hc : n ≤ c) (hc2 : c ≤ 4000000000) :
    Calls Try.prog 31 #[.slice A n c] w fun e w' => e = .returned (.tuple #[.int .i64 (tkA L), .int .i64 (tkZ L), .bool (wtB L)]) ∧ Below w.heap.size w w' := by
  cases h : wtB L
  · rw [show tkA L = 0 by simp [tkA, h], show tkZ L = 0 by simp [tkZ, h]]
    go_enter Try.func31, Try.ntmps31
    go_wp2_with fail
    refine (skGood_any _ _ _ L _ hr hn).mono ?_; rintro e w1 ⟨rfl, rfl⟩
    rw [h]
    go_wp2
    go_ret3
    exact ⟨rfl, Below.refl _ _⟩
  · obtain ⟨h1, h2, h3⟩ := wtB_true h
    have hll := hr.ilen
    have h4 : ∀ z ∈ L, 0 ≤ z ∧ z ≤ 1000 := fun z hz => by have := h3 z hz; omega
    have HA : Hid (tkA L = tkO n L) := by simp [Hid, tkA, h, hll]
    have HZ : Hid (tkZ L = L.sum - tkO n L) := by simp [Hid, tkZ, h, hll]
    have HB := Lib.hid (skTake_any A n c L (by omega) hc hc2 h4 n 0 n w (by omega) (by omega) (Nat.le_refl _) hr)
    rw [show subL L 0 n = L by rw [← hll]; exact subL_all L] at HB
    have HS := Lib.hid (skSum_any A n c L w hr (by omega) h4)
    have hb := tkO_in n L hll h4
    have hs := sumW_bound h4
    rw [hll] at hs
    have n12 : n ≤ 12 := by omega
    rw [HA.out, HZ.out]
    clear HA HZ h1 h2 h3 hll h4
    generalize tkO n L = a at *
    generalize L.sum = s at *
    obtain ⟨ha, hb⟩ := hb
    obtain ⟨hs1, hs2⟩ := hs
    go_enter Try.func31, Try.ntmps31
    go_wp2_with fail
    refine (skGood_any _ _ _ L _ hr hn).mono ?_; rintro e w1 ⟨rfl, rfl⟩
    rw [h]
    go_wp2_with fail
    refine HB.out.mono ?_; rintro e w2 ⟨rfl, rfl⟩
    go_wp2_with fail
    refine HS.out.mono ?_; rintro e w2 ⟨rfl, rfl⟩
    go_wp2
    go_ret3
    exact ⟨rfl, Below.refl _ _⟩

theorem tkT_app {d i j : Nat} {l : List Int} (hd : j - i = d + 1) (hj : j ≤ l.length) (out : ByteArray) :
    out ++ tkT (d + 1) (subL l i j) = if tkO d (subL l (i + 1) j) ≤ tkO d (subL l i (j - 1)) then (out ++ ⟨#[102]⟩) ++ tkT d (subL l (i + 1) j) else (out ++ ⟨#[108]⟩) ++ tkT d (subL l i (j - 1)) := by
  simp only [tkT]
  rw [subL_tail, subL_last (by omega) hj]
  split
  · rw [ByteArray.append_assoc]
  · rw [ByteArray.append_assoc]

set_option maxRecDepth 100000 in
set_option maxHeartbeats 4000000 in
theorem sFirstTakes_any (A : Option Addr) (n c : Nat) (L : List Int) (w : World) (hr : Rd w 1 A n (intCells L)) (hn : n ≤ 4000000000) (hc : n ≤ c) (hc2 : c ≤ 4000000000) :
    Calls Try.prog 33 #[.slice A n c] w fun e w' => e = .returned (.tuple #[.string (tkS L), .bool (wtB L)]) ∧ Below w.heap.size w w' := by
  cases h : wtB L
  · rw [show tkS L = ⟨#[]⟩ by simp [tkS, h]]
    go_enter Try.func33, Try.ntmps33
    go_wp2_with fail
    refine (skGood_any _ _ _ L _ hr hn).mono ?_; rintro e w1 ⟨rfl, rfl⟩
    rw [h]
    go_wp2
    go_ret2
    exact ⟨rfl, Below.refl _ _⟩
  · obtain ⟨h1, h2, h3⟩ := wtB_true h
    have hll := hr.ilen
    have h4 : ∀ z ∈ L, 0 ≤ z ∧ z ≤ 1000 := fun z hz => by have := h3 z hz; omega
    have HA : Hid (tkS L = tkT n L) := by simp [Hid, tkS, h, hll]
    have H0 : Hid ((⟨#[]⟩ : ByteArray) ++ tkT n (subL L 0 n) = tkT n L) := by
      simp only [Hid]
      rw [show subL L 0 n = L by rw [← hll]; exact subL_all L]
      exact ByteArray.empty_append
    have HT := Lib.hid (fun d i j hd hij hj => skTake_any A n c L (by omega) hc hc2 h4 d i j w hd hij hj hr)
    have HP := Lib.hid (fun d i j hd hj out => tkT_app (d := d) (i := i) (j := j) (l := L) hd hj out)
    have HSZ := Lib.hid (size_tkT n L)
    have HLL := Lib.hid hll
    have n12 : n ≤ 12 := by omega
    rw [HA.out]
    clear HA h1 h2 h3 h4 hll
    go_enter Try.func33, Try.ntmps33
    go_wp2_with fail
    refine (skGood_any _ _ _ L _ hr hn).mono ?_; rintro e w1 ⟨rfl, rfl⟩
    rw [h]
    go_wp2
    go_loop [4, 5, 6] (fun o x y => ∃ (out : ByteArray) (i j : Nat), o = .string out ∧ x = .int .i64 (i : Int) ∧ y = .int .i64 (j : Int) ∧ i ≤ j ∧ j ≤ n ∧ out.size ≤ 12 - (j - i) ∧ Hid (out ++ tkT (j - i) (subL L i j) = tkT n L)) (fun _ x y => (intOf y).toNat - (intOf x).toNat)
    case atStart => exact ⟨⟨#[]⟩, 0, n, rfl, rfl, rfl, by omega, by omega, by show 0 ≤ _; omega, H0⟩
    case round =>
      obtain ⟨out, i, j, rfl, rfl, rfl, hij, hj, hos, hT⟩ := hrel
      by_cases hlt : i < j
      · obtain ⟨d, hd⟩ : ∃ d, j - i = d + 1 := ⟨j - i - 1, by omega⟩
        have HD := Lib.hid hd
        have hos1 : out.size ≤ 11 := by omega
        have h1 := HP.out d i j hd (by rw [HLL.out]; exact hj) out
        have hT2 := hT.out
        rw [hd, h1] at hT2
        have HT2 := Lib.hid hT2
        have HC1 := Lib.hid (HT.out d (i + 1) j (by omega) (by omega) hj)
        have HC2 := Lib.hid (HT.out d i (j - 1) (by omega) (by omega) (by omega))
        have hts : (9223372036854775807 < out.size + 1) = False := by simp; omega
        clear hd h1 hT2 hT
        generalize tkO d (subL L (i + 1) j) = x1 at *
        generalize tkO d (subL L i (j - 1)) = x2 at *
        by_cases hx : x1 ≤ x2
        · have hT3 := HT2.out
          rw [if_pos hx] at hT3
          have HT3 := Lib.hid hT3
          clear hT3
          go_wp2_with fail
          rw [show ((i : Int) + 1) = ((i + 1 : Nat) : Int) by omega]
          refine HC1.out.mono ?_; rintro e wx ⟨rfl, rfl⟩
          go_wp2_with fail
          rw [show ((j : Int) - 1) = ((j - 1 : Nat) : Int) by omega]
          refine HC2.out.mono ?_; rintro e wx ⟨rfl, rfl⟩
          go_wp2
          go_round
          case rel =>
            refine ⟨_, i + 1, j, rfl, by go_num, rfl, by omega, hj, ?_, ?_⟩
            · rw [ByteArray.size_append]; have := HD.out; show out.size + 1 ≤ _; omega
            · have := HD.out
              simp only [Hid]
              rw [show j - (i + 1) = d by omega]
              exact HT3.out
          case measure => simp [intOf]; omega
        · have hT3 := HT2.out
          rw [if_neg hx] at hT3
          have HT3 := Lib.hid hT3
          clear hT3
          go_wp2_with fail
          rw [show ((i : Int) + 1) = ((i + 1 : Nat) : Int) by omega]
          refine HC1.out.mono ?_; rintro e wx ⟨rfl, rfl⟩
          go_wp2_with fail
          rw [show ((j : Int) - 1) = ((j - 1 : Nat) : Int) by omega]
          refine HC2.out.mono ?_; rintro e wx ⟨rfl, rfl⟩
          go_wp2
          go_round
          case rel =>
            refine ⟨_, i, j - 1, rfl, rfl, by go_num, by omega, by omega, ?_, ?_⟩
            · rw [ByteArray.size_append]; have := HD.out; show out.size + 1 ≤ _; omega
            · have := HD.out
              simp only [Hid]
              rw [show j - 1 - i = d by omega]
              exact HT3.out
          case measure => simp [intOf]; omega
      · have hij2 : j - i = 0 := by omega
        have hT2 := hT.out
        rw [hij2] at hT2
        have HE : Hid (out = tkT n L) := by
          simp only [Hid]
          rw [← hT2]
          exact ByteArray.append_empty.symm
        clear hT2 hij2
        go_wp2
        go_ret2
        exact ⟨by rw [HE.out]; rfl, Below.refl _ _⟩

end Go.Proofs.Ytkijcpbjjbhnhaa
