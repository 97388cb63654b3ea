/-
  Contracts: LostChomps of the model and of the program.
-/
import Derived.Test.YtclkddehaomdjabLostS
namespace Go.Proofs.Ytclkddehaomdjab
open Go.RowKit
set_option linter.unusedVariables false

/-- a lost chomp whose first row is W, of s squares -/
def loP (W s : Int) (l : List Int) : Bool := decide (l.getD 0 0 = W) && decide (l.sum = s)
def lostP (W s : Int) (l : List Int) : Bool := loP W s l && lsB l
def losB (x s : Int) : Bool := sideB x && decide (1 ≤ s ∧ s ≤ 36)
/-- what LostChomps returns -/
def lostR (x s : Int) : List (List Int) := if losB x s = true then (chs 6 x.toNat []).filter (lostP x s) else []
theorem lostR_6 (x s : Int) (i : Nat) : (lsR (lostR x s) i).length ≤ 6 := by
  unfold lsR
  by_cases hi : i < (lostR x s).length
  · rw [show (lostR x s).getD i [] = (lostR x s)[i] by simp [List.getD, hi]]
    have hm := List.getElem_mem hi
    generalize (lostR x s)[i] = l at *
    unfold lostR at hm
    by_cases h : losB x s = true
    · rw [if_pos h] at hm
      have h2 := (List.mem_filter.1 hm).1
      have hx : x.toNat ≤ 6 := by simp only [losB, sideB, Bool.and_eq_true, decide_eq_true_eq] at h; omega
      exact ((mem_all (by omega) hx).1 h2).1.2.1
    · rw [if_neg h] at hm; simp at hm
  · simp [List.getD, List.getElem?_eq_none (show (lostR x s).length ≤ i by omega)]
theorem lostR_no {x s : Int} (h : losB x s = false) : lostR x s = [] := by simp [lostR, h]
theorem lostR_yes {W : Nat} {s : Int} (h : losB (W : Int) s = true) : lostR W s = (chs 6 W []).filter (lostP W s) := by simp [lostR, h]
theorem lostR_two {W : Nat} {s : Int} (h : losB (W : Int) s = true) : lostR W s = (lostL 6 W).filter (loP W s) := by
  rw [lostR_yes h]
  unfold lostL
  rw [List.filter_filter]
  rfl
theorem losB_side {x s : Int} (h : losB x s = true) : ∃ a : Nat, x = a ∧ 1 ≤ a ∧ a ≤ 6 ∧ 1 ≤ s ∧ s ≤ 36 := by
  simp only [losB, sideB, Bool.and_eq_true, decide_eq_true_eq] at h
  exact ⟨x.toNat, by omega, by omega, by omega, by omega, by omega⟩

set_option maxRecDepth 100000 in
set_option maxHeartbeats 4000000 in
theorem sLostChomps_any (x s : Int) (w : World) :
    Calls Try.prog 15 #[.int .i64 x, .int .i64 s] w fun e w' => ∃ A' n' c', e = .returned (.tuple #[.slice A' n' c', .bool (losB x s)]) ∧ (n' = (lostR x s).length ∧ n' ≤ 1000000) ∧ OwnSS w' w.heap.size (.slice A' n' c') n' (lsR (lostR x s)) ∧ Below w.heap.size w w' := by
  have e1 : inB x 1 6 = sideB x := rfl
  have e2 : inB s 1 36 = decide (1 ≤ s ∧ s ≤ 36) := rfl
  cases h : losB x s
  · rw [lostR_no h]
    cases h1 : sideB x
    · rw [h1] at e1
      go_enter Try.func15, Try.ntmps15
      go_wp2_with fail
      refine (l1In_any _ _ _ _).mono ?_; rintro e wx ⟨rfl, rfl⟩
      rw [e1]
      go_wp2
      go_ret2
      exact ⟨none, 0, 0, rfl, ⟨rfl, by omega⟩, OwnSS.nil _ _ _, Below.refl _ _⟩
    · have h2 : decide (1 ≤ s ∧ s ≤ 36) = false := by simpa only [losB, h1, Bool.true_and] using h
      rw [h1] at e1
      rw [h2] at e2
      clear h2
      go_enter Try.func15, Try.ntmps15
      go_wp2_with fail
      refine (l1In_any _ _ _ _).mono ?_; rintro e wx ⟨rfl, rfl⟩
      rw [e1]
      go_wp2_with fail
      refine (l1In_any _ _ _ _).mono ?_; rintro e wx ⟨rfl, rfl⟩
      rw [e2]
      go_wp2
      go_ret2
      exact ⟨none, 0, 0, rfl, ⟨rfl, by omega⟩, OwnSS.nil _ _ _, Below.refl _ _⟩
  · obtain ⟨i0, hi, hz0, hz1, hz2⟩ := info_parts ints_info
    obtain ⟨W, rfl, h1, h2, h3, h4⟩ := losB_side h
    have e3 : sideB (W : Int) = true := by simp [sideB]; omega
    rw [e3] at e1
    rw [show decide (1 ≤ s ∧ s ≤ 36) = true by simp; omega] at e2
    rw [lostR_yes h]
    have HB := Lib.hid h
    have HA := Lib.hid (fun wx => cmAll_any W 6 wx h2 (by omega))
    have HH := Lib.hid (fun wx => cmHeaps_any W 6 wx h2 (by omega))
    clear e3 h
    go_enter Try.func15, Try.ntmps15
    go_wp2_with fail
    refine (l1In_any _ _ _ _).mono ?_; rintro e wx ⟨rfl, rfl⟩
    rw [e1]
    go_wp2_with fail
    refine (l1In_any _ _ _ _).mono ?_; rintro e wx ⟨rfl, rfl⟩
    rw [e2]
    clear e1 e2
    go_wp2_with fail
    refine (HH.out _).mono ?_; rintro e w1 ⟨g, tbl, rfl, ho, htab, hb1⟩
    have HO := Lib.hid ho
    have HT := Lib.hid htab
    have HB1 := Lib.hid hb1
    have s1 := hb1.size
    clear ho htab hb1
    go_wp2_with fail
    refine (HA.out _).mono ?_; rintro e w2 ⟨A1, m, c1, rfl, hL, hss, hb2⟩
    have hO2 := own_later HO.out hb2 (Nat.le_refl _)
    obtain ⟨AC, CC, hac⟩ := hss
    have HAC := Lib.hid hac
    have HLL := Lib.hid hL
    have HB2 := Lib.hid (HB1.out.trans (hb2.mono s1))
    have hlen : tbl.length = 117649 := by have := hO2.1; rw [length_intCells] at this; omega
    have HO2 := Lib.hid hO2
    have hm923 : m ≤ 923 := by rw [← hL, length_chs]; exact cntC_le (by omega) h2
    have s2 := hb2.size
    have s02 := HB2.out.size
    have HQ : Hid (∀ k (hk : k < (chs 6 W []).length), ChOK (chs 6 W [])[k] ∧ tbl.getD (keyI (chs 6 W [])[k]).toNat 0 = (gr (chs 6 W [])[k] : Nat) + 1) := fun k hk => ⟨chs_ok (by omega) h2 hk, HT.out k hk hk⟩
    clear hac hL hb2 HO hO2 HB1 HT HA HH
    generalize hCL : chs 6 W [] = CL at *
    have HCL := Lib.hid hCL
    clear hCL
    go_wp2
    go_loopw [6, 23] (fun v i wr => ∃ (k j : Nat) (A' : Option Addr) (c' : Nat), k ≤ m ∧ j ≤ k ∧ i = .int .i64 k ∧ v = .slice A' j c' ∧ Hid ((selI CL [] (lostP W s) k).length = j) ∧ wr.ownsRow w2.heap.size 30 1 (.slice A' j c') j ((selI CL [] (lostP W s) k).map fun i => .slice (AC i) (lsR CL i).length (CC i)) ∧ Below w2.heap.size w2 wr) (fun _ i _ => m - (intOf i).toNat)
    case atStart => exact ⟨0, 0, none, 0, Nat.zero_le _, Nat.le_refl _, rfl, rfl, rfl, World.ownsRow_nil _ _ _ _, Below.refl _ _⟩
    case round =>
      obtain ⟨k, j, A', c', hk, hjk, rfl, rfl, hj, hown, hB⟩ := hrel
      have sB := hB.size
      by_cases hlt : k < m
      · have hkl : k < CL.length := by rw [HLL.out]; exact hlt
        have htop := own_later HAC.out.top hB (Nat.le_refl _)
        obtain ⟨bm, rfl, hbm1, hbm⟩ := own_at htop (by omega)
        have pm := htop.cellAt k (by omega)
        rw [ssCells_at hlt] at pm
        have hrow := own_later (HAC.out.row k hlt) hB (Nat.le_refl _)
        have hln : lsR CL k = CL[k] := by simp [lsR, List.getD, List.getElem?_eq_getElem hkl]
        have hgd : CL.getD k [] = CL[k] := by simp [List.getD, List.getElem?_eq_getElem hkl]
        obtain ⟨hok, htv⟩ := HQ.out k hkl
        rw [hln] at pm hrow
        have HSY : Hid (lostP W s CL[k] = true → selI CL [] (lostP W s) (k + 1) = selI CL [] (lostP W s) k ++ [k]) := fun h => selI_yes (by rw [hgd]; exact h)
        have HSN : Hid (lostP W s CL[k] = false → selI CL [] (lostP W s) (k + 1) = selI CL [] (lostP W s) k) := fun h => selI_no (by rw [hgd]; exact h)
        have HLN : Hid ((lsR CL k).length = CL[k].length) := by simp only [Hid]; rw [hln]
        generalize CL[k] = l at *
        have HOK := Lib.hid hok
        obtain ⟨kn, hkn⟩ : ∃ kn : Nat, keyI l = kn := ⟨(keyI l).toNat, by have := (keyI_in hok).1; omega⟩
        have hkn6 : kn < 117649 := by have := (keyI_in hok).2; omega
        obtain ⟨gv, hgv⟩ : ∃ gv : Nat, gr l = gv := ⟨_, rfl⟩
        have hgv6 : gv < 37 := by have := gr_le hok; omega
        rw [hkn, hgv] at htv
        simp only [Int.toNat_natCast] at htv
        have hlb : lsB l = !decide (0 < (gv : Int)) := by simp only [lsB, grI, hgv]
        have hll1 : 1 ≤ l.length := hok.1
        obtain ⟨a, ea⟩ : ∃ a, AC k = a := ⟨_, rfl⟩
        rw [ea] at pm hrow
        obtain ⟨bx, rfl, hbx1, hbx⟩ := own_at hrow (by omega)
        have a0 := hrow.cellAt 0 (by omega)
        rw [show (intCells l)[0]? = some (.int .i64 (l.getD 0 0)) by
          have q : 0 < l.length := by omega
          simp only [intCells, List.getElem?_map, List.getElem?_eq_getElem q, Option.map_some]
          rw [getD_lt q]] at a0
        have HLP : Hid (lostP W s l = (decide (l.getD 0 0 = W) && decide (l.sum = s) && !decide (0 < (gv : Int)))) := by
          simp only [Hid, lostP, loP, hlb]
        generalize l.getD 0 0 = z at *
        have HKC : Hid (∀ (wx : World), Rd wx 1 (some ⟨bx, 0, none⟩) l.length (intCells l) → Calls Try.prog 39 #[.slice (some ⟨bx, 0, none⟩) l.length (CC k)] wx fun e w' => e = .returned (.int .i64 (kn : Int)) ∧ wx = w') := fun wx h => by
          have q := cmKey_any (some ⟨bx, 0, none⟩) l.length (CC k) l wx h HOK.out
          rw [hkn] at q
          exact q
        have HSU := Lib.hid (fun wx h => cmSum_any (some ⟨bx, 0, none⟩) l.length (CC k) l wx h HOK.out)
        have HRW := Lib.hid (Rd.of_own hrow)
        have hkni : (kn : Int) < 117649 := by omega
        have hown2 := own_later HO2.out hB (Nat.le_refl _)
        have htc := hown2.cellAt kn (by omega)
        rw [show (intCells tbl)[kn]? = some (.int .i64 ((gv : Int) + 1)) by
          have hk2 : kn < tbl.length := by rw [hlen]; exact hkn6
          simp only [intCells, List.getElem?_map, List.getElem?_eq_getElem hk2, Option.map_some]
          rw [← htv, getD_lt hk2]] at htc
        have HAK := Lib.hid ea
        have hsum := sumI_36 hok
        generalize l.sum = su at *
        have HPN : Hid (lostP W s l = false → Hid ((selI CL [] (lostP W s) (k + 1)).length = j) ∧ wr.ownsRow w2.heap.size 30 1 (.slice A' j c') j ((selI CL [] (lostP W s) (k + 1)).map fun i => .slice (AC i) (lsR CL i).length (CC i)) ∧ Below w2.heap.size w2 wr) := fun h => ⟨by simp only [Hid]; rw [HSN.out h]; exact hj.out, by rw [HSN.out h]; exact hown, hB⟩
        have HOW := Lib.hid hown
        have HBB := Lib.hid hB
        clear hln hrow htv hkn hgv hlb hok hgd htop hown2 hlen hkl ea hown hB
        by_cases d1 : z = W
        · have hd1 : (z == (W : Int)) = true := by simpa using d1
          by_cases d2 : su = s
          · have hd2 : (su == s) = true := by simpa using d2
            by_cases d3 : gv = 0
            · have hd3 : ((gv : Int) + 1 == 1) = true := by rw [d3]; rfl
              have HSI := Lib.hid (HSY.out (by rw [HLP.out, d1, d2, d3]; simp))
              have hc3 : j + 1 ≤ maxLen := by simp only [maxLen]; omega
              have HOA := Lib.hid (own_alloc HOW.out (.cells #[.slice (some ⟨bx, 0, none⟩) l.length (CC k)] 30))
              clear d1 d2 d3
              go_wp2_with fail
              refine (HSU.out _ HRW.out).mono ?_; rintro e wx ⟨rfl, rfl⟩
              go_wp2_with fail
              refine (HKC.out _ HRW.out).mono ?_; rintro e wx ⟨rfl, rfl⟩
              go_wp2_with (at_builtin; refine wpList_append_own _ rfl (.tmp 46) (.tmp 48) 25 rfl w2.heap.size 30 i0 (.slice none 0 0) 1 24 Try.underlying25 hi hz0 hz1 hz2 rfl (by decide) _ _ _ rfl HOA.out ⟨wr.heap.size, 0, none⟩ 1 1 [.slice (some ⟨bx, 0, none⟩) l.length (CC k)] rfl rfl (new1 _ _ _) (by intro u hu; simp at hu; subst hu; rfl) hc3 (by omega) (by simp; omega) ?_)
              intro v' w4 hown' hgrow _
              obtain ⟨A4, c4, rfl⟩ := own_slice hown'
              have hb4 : Below w2.heap.size w2 w4 := gb_new (Nat.le_refl _) (HBB.out.alloc HBB.out.size (.cells #[.slice (some ⟨bx, 0, none⟩) l.length (CC k)] 30)) hgrow (fun g hg => (HOW.out.lt g hg).1)
              have P := Lib.hid (show Hid ((selI CL [] (lostP W s) (k + 1)).length = j + 1) ∧ w4.ownsRow w2.heap.size 30 1 (.slice A4 (j + 1) c4) (j + 1) ((selI CL [] (lostP W s) (k + 1)).map fun i => .slice (AC i) (lsR CL i).length (CC i)) ∧ Below w2.heap.size w2 w4 from ⟨by simp only [Hid]; rw [HSI.out, List.length_append, hj.out]; rfl, by
                rw [HSI.out, List.map_append]
                simp only [List.map_cons, List.map_nil, HLN.out, HAK.out]
                exact hown', hb4⟩)
              clear hown' hgrow hb4 HOA hc3
              go_wp2
              go_roundw
              case rel => exact ⟨k + 1, j + 1, A4, c4, by omega, by omega, by go_num, rfl, P.out⟩
              case measure => simp [intOf]; omega
            · have hd3 : ((gv : Int) + 1 == 1) = false := by simp; omega
              have P := Lib.hid (HPN.out (by rw [HLP.out, show decide (0 < (gv : Int)) = true by simp; omega]; simp))
              clear d1 d2
              go_wp2_with fail
              refine (HSU.out _ HRW.out).mono ?_; rintro e wx ⟨rfl, rfl⟩
              go_wp2_with fail
              refine (HKC.out _ HRW.out).mono ?_; rintro e wx ⟨rfl, rfl⟩
              go_wp2
              go_roundw
              case rel => exact ⟨k + 1, j, A', c', by omega, by omega, by go_num, rfl, P.out⟩
              case measure => simp [intOf]; omega
          · have hd2 : (su == s) = false := by simpa using d2
            have P := Lib.hid (HPN.out (by rw [HLP.out]; simp [d2]))
            clear d1
            go_wp2_with fail
            refine (HSU.out _ HRW.out).mono ?_; rintro e wx ⟨rfl, rfl⟩
            go_wp2
            go_roundw
            case rel => exact ⟨k + 1, j, A', c', by omega, by omega, by go_num, rfl, P.out⟩
            case measure => simp [intOf]; omega
        · have hd1 : (z == (W : Int)) = false := by simpa using d1
          have P := Lib.hid (HPN.out (by rw [HLP.out]; simp [d1]))
          go_wp2
          go_roundw
          case rel => exact ⟨k + 1, j, A', c', by omega, by omega, by go_num, rfl, P.out⟩
          case measure => simp [intOf]; omega
      · have hkn : k = m := by omega
        have hlen2 : (CL.filter (lostP W s)).length = j := by
          have h := sel_length (d := []) (p := lostP W s) HLL.out
          rw [← hkn, hj.out] at h
          exact h.symm
        have HSS : Hid (OwnSS wr w.heap.size (.slice A' j c') j (lsR (CL.filter (lostP W s)))) := by
          have h := HAC.out.sel (I := selI CL [] (lostP W s) k) (fun i hi => by have := selI_lt hi; omega) (selI_nodup _ _ _ _) hj.out hown hB (Nat.le_refl _) (B0 := w.heap.size) (by omega) (by omega)
          refine h.congr fun i hi => ?_
          have e := lsR_sel (M := CL) (p := lostP W s) (i := i) (by omega)
          rw [HLL.out, ← hkn] at e
          exact e
        have HB3 := Lib.hid (HB2.out.trans (hB.mono s02))
        have HLEN := Lib.hid hlen2
        clear hkn hlen2 hown hB
        go_wp2
        go_ret2
        exact ⟨A', j, c', rfl, ⟨by rw [HCL.out]; exact HLEN.out.symm, by omega⟩, by rw [HCL.out]; exact HSS.out, HB3.out⟩

theorem sumL_bound {l : List Int} (h : ∀ z ∈ l, 0 ≤ z ∧ z ≤ 1000) : 0 ≤ l.sum ∧ l.sum ≤ 1000 * l.length := by
  induction l with
  | nil => simp
  | cons a l ih =>
    have h1 := h a (by simp)
    have h2 := ih (fun z hz => h z (by simp [hz]))
    simp
    omega
set_option maxHeartbeats 400000 in
theorem sumSm_any (A : Option Addr) (n c : Nat) (l : List Int) (w : World) (hr : Rd w 1 A n (intCells l)) (hn : n ≤ 1000) (hl : ∀ z ∈ l, 0 ≤ z ∧ z ≤ 1000) :
    Calls Try.prog 43 #[.slice A n c] w fun e w' => e = .returned (.int .i64 l.sum) ∧ w = w' := by
  have hll := hr.ilen
  have HLL := Lib.hid hll
  have HL := Lib.hid hl
  clear hll hl
  go_enter Try.func43, Try.ntmps43
  go_wp2
  go_loop [3, 8] (fun s i => ∃ k : Nat, k ≤ n ∧ i = .int .i64 k ∧ s = .int .i64 (l.take k).sum) (fun _ i => n - (intOf i).toNat)
  case atStart => exact ⟨0, Nat.zero_le _, rfl, by simp⟩
  case round =>
    obtain ⟨k, hk, rfl, rfl⟩ := hrel
    by_cases hlt : k < n
    · obtain ⟨b1, o1, rfl, _, hx, p1⟩ := hr.num hlt
      have b2 := sumL_bound (l := l.take k) (fun z hz => HL.out z (List.mem_of_mem_take hz))
      have b3 := HL.out _ (List.getElem_mem hx)
      have b4 : (l.take k).length ≤ 1000 := by rw [List.length_take]; omega
      have HS := Lib.hid (sum_takeI hx)
      generalize (l.take k).sum = S at *
      generalize l[k] = z at *
      go_wp2
      go_round
      case rel => exact ⟨k + 1, by omega, by go_num, by rw [HS.out]⟩
      case measure => simp [intOf]; omega
    · go_wp2
      go_ret
      have : k = n := by omega
      subst this
      exact ⟨ret_int (by rw [List.take_of_length_le (by rw [HLL.out]; exact Nat.le_refl _)]), rfl⟩
theorem BoxF.rd {w : World} {g : Nat} {f : Nat → Int} (h : BoxF w g f) : Rd w 1 (some ⟨g, 0, none⟩) 6 (intCells [f 0, f 1, f 2, f 3, f 4, f 5]) := by
  have e : intCells [f 0, f 1, f 2, f 3, f 4, f 5] = cellsF f := rfl
  rw [e]
  refine ⟨by simp [cellsF], fun _ => ⟨g, 0, rfl, h.lt, fun i v hv => ?_⟩⟩
  have hi : i < 6 := by
    have := (List.getElem?_eq_some_iff.1 hv).1
    simpa [cellsF] using this
  rw [cellsF_at f hi] at hv
  cases hv
  rw [Nat.zero_add]
  exact h.cell hi

set_option maxRecDepth 100000 in
set_option maxHeartbeats 4000000 in
theorem lostChompsF_any (x s : Int) (w : World) :
    Calls Try.prog 16 #[.int .i64 x, .int .i64 s] w fun e w' => ∃ A' n' c', e = .returned (.tuple #[.slice A' n' c', .bool (losB x s)]) ∧ (n' = (lostR x s).length ∧ n' ≤ 1000000) ∧ OwnSS w' w.heap.size (.slice A' n' c') n' (lsR (lostR x s)) ∧ Below w.heap.size w w' := by
  cases h : losB x s
  · rw [lostR_no h]
    cases h1 : sideB x
    · clear h
      go_enter Try.func16, Try.ntmps16
      go_wp2_with fail
      refine (isChompSide_any _ _).mono ?_; rintro e wx ⟨rfl, rfl⟩
      rw [h1]
      go_wp2
      go_ret2
      exact ⟨none, 0, 0, rfl, ⟨rfl, by omega⟩, OwnSS.nil _ _ _, Below.refl _ _⟩
    · have h2 : decide (1 ≤ s ∧ s ≤ 36) = false := by simpa only [losB, h1, Bool.true_and] using h
      have h3 : ¬ (1 ≤ s ∧ s ≤ 36) := by simpa only [decide_eq_false_iff_not] using h2
      clear h2 h
      by_cases h4 : s < 1
      · have hd1 : decide (s < 1) = true := decide_eq_true h4
        go_enter Try.func16, Try.ntmps16
        go_wp2_with fail
        refine (isChompSide_any _ _).mono ?_; rintro e wx ⟨rfl, rfl⟩
        rw [h1]
        go_wp2
        go_ret2
        exact ⟨none, 0, 0, rfl, ⟨rfl, by omega⟩, OwnSS.nil _ _ _, Below.refl _ _⟩
      · have h5 : 36 < s := by omega
        go_enter Try.func16, Try.ntmps16
        go_wp2_with fail
        refine (isChompSide_any _ _).mono ?_; rintro e wx ⟨rfl, rfl⟩
        rw [h1]
        go_wp2
        go_ret2
        exact ⟨none, 0, 0, rfl, ⟨rfl, by omega⟩, OwnSS.nil _ _ _, Below.refl _ _⟩
  · obtain ⟨i0, hi, hz0, hz1, hz2⟩ := info_parts ints_info
    obtain ⟨W, rfl, h1, h2, h3, h4⟩ := losB_side h
    have e3 : sideB (W : Int) = true := by simp [sideB]; omega
    have HR := Lib.hid (lostR_two h)
    have HB := Lib.hid h
    rw [HR.out]
    have HA := Lib.hid (fun wx => lostChomps_any W 6 wx h2 (by omega))
    clear h
    go_enter Try.func16, Try.ntmps16
    go_wp2_with fail
    refine (isChompSide_any _ _).mono ?_; rintro e wx ⟨rfl, rfl⟩
    rw [e3]
    go_wp2_with fail
    refine (HA.out _).mono ?_; rintro e w1 ⟨A1, m, c1, rfl, hL, hm923, ho, hb1⟩
    have HO := Lib.hid ho
    have HLL := Lib.hid hL
    have HB1 := Lib.hid hb1
    have s1 := hb1.size
    have HQ : Hid (∀ k (hk : k < (lostL 6 W).length), ChOK (lostL 6 W)[k]) := fun k hk => ((mem_all (by omega) h2).1 (List.mem_filter.1 (List.getElem_mem hk)).1).1
    clear ho hL hb1 HA e3 HR
    generalize hCL : lostL 6 W = CL at *
    have HCL := Lib.hid hCL
    clear hCL
    go_wp2
    go_loopw [6, 23] (fun v i wr => ∃ (k j : Nat) (A' : Option Addr) (c' : Nat), k ≤ m ∧ j ≤ k ∧ i = .int .i64 k ∧ v = .slice A' j c' ∧ Hid (((CL.take k).filter (loP W s)).length = j) ∧ OwnSS wr w1.heap.size (.slice A' j c') j (lsR ((CL.take k).filter (loP W s))) ∧ Below w1.heap.size w1 wr) (fun _ i _ => m - (intOf i).toNat)
    case atStart => exact ⟨0, 0, none, 0, Nat.zero_le _, Nat.le_refl _, rfl, rfl, rfl, OwnSS.nil _ _ _, Below.refl _ _⟩
    case round =>
      obtain ⟨k, j, A', c', hk, hjk, rfl, rfl, hj, hss, hB⟩ := hrel
      have sB := hB.size
      by_cases hlt : k < m
      · have hkl : k < CL.length := by rw [HLL.out]; exact hlt
        have hob := own_later HO.out hB (Nat.le_refl _)
        obtain ⟨b, rfl, hb1', hbl⟩ := own_at hob (by omega)
        have a0 := (hob.cellAt (k * 6) (by omega)).trans (chCells_at _ k 0 hkl (by omega))
        have a1 := (hob.cellAt (k * 6 + 1) (by omega)).trans (chCells_at _ k 1 hkl (by omega))
        have a2 := (hob.cellAt (k * 6 + 2) (by omega)).trans (chCells_at _ k 2 hkl (by omega))
        have a3 := (hob.cellAt (k * 6 + 3) (by omega)).trans (chCells_at _ k 3 hkl (by omega))
        have a4 := (hob.cellAt (k * 6 + 4) (by omega)).trans (chCells_at _ k 4 hkl (by omega))
        have a5 := (hob.cellAt (k * 6 + 5) (by omega)).trans (chCells_at _ k 5 hkl (by omega))
        have hgd : CL.getD k [] = CL[k] := by simp [List.getD, hkl]
        have hok := HQ.out k hkl
        have hsn : (CL.take (k + 1)).filter (loP W s) = (CL.take k).filter (loP W s) ++ [CL[k]].filter (loP W s) := by rw [List.take_succ_eq_append_getElem hkl, List.filter_append]
        rw [hgd] at a0 a1 a2 a3 a4 a5
        generalize CL[k] = l at *
        have HSY : Hid (loP W s l = true → (CL.take (k + 1)).filter (loP W s) = (CL.take k).filter (loP W s) ++ [l]) := fun h => by rw [hsn]; simp [h]
        have HSN : Hid (loP W s l = false → (CL.take (k + 1)).filter (loP W s) = (CL.take k).filter (loP W s)) := fun h => by rw [hsn]; simp [h]
        obtain ⟨f, hf⟩ : ∃ f : Nat → Int, f = fun j => l.getD j 0 := ⟨_, rfl⟩
        rw [show l.getD 0 0 = f 0 by rw [hf]] at a0
        rw [show l.getD 1 0 = f 1 by rw [hf]] at a1
        rw [show l.getD 2 0 = f 2 by rw [hf]] at a2
        rw [show l.getD 3 0 = f 3 by rw [hf]] at a3
        rw [show l.getD 4 0 = f 4 by rw [hf]] at a4
        rw [show l.getD 5 0 = f 5 by rw [hf]] at a5
        have HRW : Hid (rowsK f 6 = l) := by simp only [Hid]; rw [hf]; exact hok.rows hok.2.1
        have hsm : [f 0, f 1, f 2, f 3, f 4, f 5].sum = l.sum := by
          rw [sum6 hok.2.1, hf]
          simp
          omega
        have hbd : ∀ z ∈ [f 0, f 1, f 2, f 3, f 4, f 5], 0 ≤ z ∧ z ≤ 1000 := by
          have q : ∀ j, 0 ≤ f j ∧ f j ≤ 1000 := fun j => by
            rw [hf]
            show 0 ≤ l.getD j 0 ∧ l.getD j 0 ≤ 1000
            have := hok.ge0 j; have := hok.le6 j; exact ⟨by omega, by omega⟩
          intro z hz
          simp only [List.mem_cons, List.not_mem_nil, or_false] at hz
          rcases hz with rfl | rfl | rfl | rfl | rfl | rfl <;> exact q _
        have HLP : Hid (loP W s l = (decide (f 0 = W) && decide (l.sum = s))) := by simp only [Hid, loP, hf]
        have hll6 := hok.2.1
        have hba : Below wr.heap.size wr (wr.alloc (.cells #[.int .i64 (f 0), .int .i64 (f 1), .int .i64 (f 2), .int .i64 (f 3), .int .i64 (f 4), .int .i64 (f 5)] 51)) := (Below.refl _ _).alloc (Nat.le_refl _) _
        have hbx := BoxF.new wr f
        obtain ⟨y0, y1, y2, y3, y4, y5⟩ := hbx.cells
        have HSU := Lib.hid (sumSm_any (some ⟨wr.heap.size, 0, none⟩) 6 6 [f 0, f 1, f 2, f 3, f 4, f 5] _ hbx.rd (by omega) hbd)
        rw [hsm] at HSU
        have HPN : Hid (loP W s l = false → Hid (((CL.take (k + 1)).filter (loP W s)).length = j) ∧ OwnSS (wr.alloc (.cells #[.int .i64 (f 0), .int .i64 (f 1), .int .i64 (f 2), .int .i64 (f 3), .int .i64 (f 4), .int .i64 (f 5)] 51)) w1.heap.size (.slice A' j c') j (lsR ((CL.take (k + 1)).filter (loP W s))) ∧ Below w1.heap.size w1 (wr.alloc (.cells #[.int .i64 (f 0), .int .i64 (f 1), .int .i64 (f 2), .int .i64 (f 3), .int .i64 (f 4), .int .i64 (f 5)] 51))) := fun h => ⟨by simp only [Hid]; rw [HSN.out h]; exact hj.out, by rw [HSN.out h]; exact hss.later hba (Nat.le_refl _), hB.trans (hba.mono sB)⟩
        have HSS := Lib.hid (hss.later hba (Nat.le_refl _))
        have HBB := Lib.hid (hB.trans (hba.mono sB))
        clear hok hgd hsn hf hsm hbd hba hbx hob hkl hss hB
        generalize l.sum = su at *
        by_cases d1 : f 0 = W
        · have hd1 : (f 0 == (W : Int)) = true := by simpa using d1
          by_cases d2 : su = s
          · have hd2 : (su == s) = true := by simpa using d2
            have HSI := Lib.hid (HSY.out (by rw [HLP.out, d1, d2]; simp))
            have hc3 : j + 1 ≤ maxLen := by simp only [maxLen]; omega
            clear d1 d2
            go_wp2_with fail
            refine (HSU.out).mono ?_; rintro e wx ⟨rfl, rfl⟩
            go_wp2_with fail
            refine (rowsOf_any f _).mono ?_; rintro e w3 ⟨A3, n3, c3, rfl, o3, hb3⟩
            rw [HRW.out] at o3
            have hn3 : n3 = l.length := by have := o3.1; rw [length_intCells] at this; omega
            subst hn3
            have s3 := hb3.size
            have hB3 := HBB.out.trans (hb3.mono HBB.out.size)
            obtain ⟨AX, CX, hac0⟩ := HSS.out
            have hac := own_later hac0.top hb3 (Nat.le_refl _)
            have HAC0 := Lib.hid hac0
            have HWZ := Lib.hid (hb3.alloc (by exact s3) (.cells #[.slice A3 l.length c3] 30))
            have HAC := Lib.hid hac
            have HB3 := Lib.hid hB3
            have HOA := Lib.hid (own_alloc hac (.cells #[.slice A3 l.length c3] 30))
            have HO3 := Lib.hid o3
            have sW := HBB.out.size
            clear hac hac0 hB3 o3 hb3
            go_wp2_with (at_builtin; refine wpList_append_own _ rfl (.tmp 37) (.tmp 40) 25 rfl w1.heap.size 30 i0 (.slice none 0 0) 1 24 Try.underlying25 hi hz0 hz1 hz2 rfl (by decide) _ _ _ rfl HOA.out ⟨w3.heap.size, 0, none⟩ 1 1 [.slice A3 l.length c3] rfl rfl (new1 _ _ _) (by intro u hu; simp at hu; subst hu; rfl) hc3 (by omega) (by have := HB3.out.size; simp; omega) ?_)
            intro v' w4 hown' hgrow _
            obtain ⟨A4, c4, rfl⟩ := own_slice hown'
            have hss4 : OwnSS w4 w1.heap.size (.slice A4 (j + 1) c4) (j + 1) (fun i => if i = j then l else lsR ((CL.take k).filter (loP W s)) i) :=
              OwnAC.push HAC0.out HWZ.out (own_alloc HO3.out _) sW hgrow hown'
            have hb4 : Below w1.heap.size w1 w4 := gb_new (Nat.le_refl _) (HB3.out.alloc HB3.out.size (.cells #[.slice A3 l.length c3] 30)) hgrow (fun g hg => (HAC.out.lt g hg).1)
            have P := Lib.hid (show Hid (((CL.take (k + 1)).filter (loP W s)).length = j + 1) ∧ OwnSS w4 w1.heap.size (.slice A4 (j + 1) c4) (j + 1) (lsR ((CL.take (k + 1)).filter (loP W s))) ∧ Below w1.heap.size w1 w4 from ⟨by simp only [Hid]; rw [HSI.out, List.length_append, hj.out]; rfl, hss4.congr (fun i hi => by rw [HSI.out]; exact lsR_snoc hj.out l i hi), hb4⟩)
            clear hown' hgrow hb4 hss4 HOA HAC HAC0 HWZ HO3 HB3 hc3
            go_wp2
            go_roundw
            case rel => exact ⟨k + 1, j + 1, A4, c4, by omega, by omega, by go_num, rfl, P.out⟩
            case measure => simp [intOf]; omega
          · have hd2 : (su == s) = false := by simpa using d2
            have P := Lib.hid (HPN.out (by rw [HLP.out]; simp [d2]))
            clear d1
            go_wp2_with fail
            refine (HSU.out).mono ?_; rintro e wx ⟨rfl, rfl⟩
            go_wp2
            go_roundw
            case rel => exact ⟨k + 1, j, A', c', by omega, by omega, by go_num, rfl, P.out⟩
            case measure => simp [intOf]; omega
        · have hd1 : (f 0 == (W : Int)) = false := by simpa using d1
          have P := Lib.hid (HPN.out (by rw [HLP.out]; simp [d1]))
          go_wp2
          go_roundw
          case rel => exact ⟨k + 1, j, A', c', by omega, by omega, by go_num, rfl, P.out⟩
          case measure => simp [intOf]; omega
      · have htk : CL.take k = CL := List.take_of_length_le (by rw [HLL.out]; omega)
        rw [htk] at hj hss
        have HSS := Lib.hid (hss.base s1)
        have HB3 := Lib.hid (HB1.out.trans (hB.mono s1))
        clear htk hss hB
        go_wp2
        go_ret2
        exact ⟨A', j, c', rfl, ⟨by rw [HCL.out]; exact hj.out.symm, by omega⟩, by rw [HCL.out]; exact HSS.out, HB3.out⟩

end Go.Proofs.Ytclkddehaomdjab
