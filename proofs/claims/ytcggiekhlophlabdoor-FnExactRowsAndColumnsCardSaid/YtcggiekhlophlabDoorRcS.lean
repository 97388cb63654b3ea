/-
  Contracts: RowsAndColumns of the model. Conditions: none.
-/
import Derived.Test.YtcggiekhlophlabDoorRcW
import Derived.Lib.OthersKept
namespace Go.Proofs.YtcggiekhlophlabDoor
open Go.RowKit Go.Shelf
set_option linter.unusedVariables false
set_option linter.unusedSimpArgs false

set_option maxRecDepth 100000 in
set_option maxHeartbeats 4000000 in
theorem sRowsCols_no (A : Option Addr) (n c : Nat) (ss : List ByteArray) (w : World) (hr : Rd w 1 A n (strCells ss)) (hsz : ∀ s ∈ ss, s.size ≤ 9223372036854775807) (hn : n ≤ 1048576) (hF : rcB ss = false) :
    Calls Tryd.prog 11 #[.slice A n c] w fun e w' => e = .returned (.tuple #[.slice none 0 0, .slice none 0 0, .int .i64 0, .bool false]) ∧ w = w' := by
  have hl := Lib.hid hr.slen
  have HSZ := Lib.hid hsz
  have HF := Lib.hid hF
  clear hsz hF
  cases h1 : inB (n : Int) 1 20
  · go_enter Tryd.func11, Tryd.ntmps11
    go_wp2_with (go_at_call 20; refine (l1In_any _ _ _ _).mono ?_; rintro e wx ⟨rfl, rfl⟩; rw [h1])
    refine bodyPost_ret (v := .tuple #[.slice none 0 0, .slice none 0 0, .int .i64 0, .bool false]) (by simp [results, Tryd.results11, go_sem]) rfl ?_
    exact ⟨rfl, rfl⟩
  · have h1' := inB_true h1
    have HA : Hid (ss.all (rowOk (sizeW ss)) = false) := by
      have : decide (1 ≤ ss.length ∧ ss.length ≤ 20) = true := by rw [hl.out]; simp; omega
      have h := HF.out
      rw [rcB, this] at h
      exact h
    obtain ⟨b0, o0, rfl, l0, hx0, p0⟩ := hr.str (show 0 < n by omega)
    have p0' : w.cell? ⟨b0, o0, none⟩ = some (.string ss[0]) := p0
    have HW : Hid ((ss[0]).size = sizeW ss) := (headD_at0 (by have := hl.out; omega)).symm
    have hz0 : (ss[0]).size ≤ 9223372036854775807 := HSZ.out _ (List.getElem_mem hx0)
    go_enter Tryd.func11, Tryd.ntmps11
    go_wp2_with (go_at_call 20; refine (l1In_any _ _ _ _).mono ?_; rintro e wx ⟨rfl, rfl⟩; rw [h1])
    go_loop [7, 19] (fun _ i => ∃ k : Nat, k ≤ n ∧ i = .int .i64 k ∧ Hid ((ss.take k).all (rowOk (sizeW ss)) = true)) (fun _ i => n - (intOf i).toNat)
    case atStart => exact ⟨0, Nat.zero_le _, rfl, by simp [Hid]⟩
    case round =>
      obtain ⟨k, hk, rfl, hT⟩ := hrel
      by_cases hlt : k < n
      · obtain ⟨b1, o1, e1, l1, hx, p1⟩ := hr.str hlt
        simp only [Option.some.injEq, Addr.mk.injEq, and_true] at e1
        obtain ⟨rfl, rfl⟩ := e1
        have HS := Lib.hid (fun h => all_takeG hx hT.out h)
        have hsk : (ss[k]).size ≤ 9223372036854775807 := HSZ.out _ (List.getElem_mem hx)
        have HB := Lib.hid (fun wx => bxBox_any ss[k] (by omega) wx)
        generalize ss[k] = t at *
        generalize ss[0] = t0 at *
        cases hp : pbB t
        · rw [hp] at HB
          clear hT HS
          go_wp2_with (go_at_call 19; refine (HB.out _).mono ?_; rintro e wx ⟨rfl, rfl⟩)
          refine bodyPost_ret (v := .tuple #[.slice none 0 0, .slice none 0 0, .int .i64 0, .bool false]) (by simp [results, Tryd.results11, go_sem]) rfl ?_
          exact ⟨rfl, rfl⟩
        · rw [hp] at HB
          by_cases hq : t.size = t0.size
          · have HS2 := Lib.hid (HS.out (by simp [rowOk, hp, hq, HW.out]))
            have hqi : ((t.size : Int) != (t0.size : Int)) = false := by simp; omega
            clear hT HS hq
            go_wp2_with (go_at_call 19; refine (HB.out _).mono ?_; rintro e wx ⟨rfl, rfl⟩)
            go_round
            case rel => exact ⟨k + 1, by omega, by go_num, HS2⟩
            case measure => simp [intOf]; omega
          · have hqi : ((t.size : Int) != (t0.size : Int)) = true := by simp; omega
            clear hT HS hq
            go_wp2_with (go_at_call 19; refine (HB.out _).mono ?_; rintro e wx ⟨rfl, rfl⟩)
            refine bodyPost_ret (v := .tuple #[.slice none 0 0, .slice none 0 0, .int .i64 0, .bool false]) (by simp [results, Tryd.results11, go_sem]) rfl ?_
            exact ⟨rfl, rfl⟩
      · have h := hT.out
        rw [List.take_of_length_le (by have := hl.out; omega)] at h
        have h2 := HA.out
        rw [h] at h2
        cases h2

theorem iterPosR {w : World} {k : Nat} {s : ByteArray} {p : Nat} (h : ItAt w k s p) : w.iterPos k = p := by unfold ItAt at h; simp [World.iterPos, h]
theorem own_iter {w : World} {B e z n k p : Nat} {v : Value} {xs : List Value} {s : ByteArray} (h : w.ownsRow B e z v n xs) (hk : ItAt w k s p) (q : Nat) : (w.iterAt k s q).ownsRow B e z v n xs := by
  refine ⟨h.1, ?_⟩
  rcases h.2 with h0 | ⟨g, cap, cur, h', hb', hg, rest⟩
  · exact .inl h0
  · refine .inr ⟨g, cap, cur, h', hb', (Lib.iterAt_other w k g s q ?_).trans hg, rest⟩
    rintro rfl
    unfold ItAt at hk
    rw [hk] at hg; cases hg
theorem pbB_ascii {s : ByteArray} (h : pbB s = true) {x : Nat} (hx : x < s.size) : (s[x]).toNat < 128 := by
  simp only [pbB, Bool.and_eq_true, List.all_eq_true] at h
  have hd : x < s.data.toList.length := by rw [Array.length_toList]; exact hx
  have := h.2 s.data.toList[x] (List.getElem_mem hd)
  have e : s.data.toList[x] = s[x] := rfl
  rw [e] at this
  simp only [oxB, Bool.or_eq_true, beq_iff_eq] at this
  rcases this with h | h <;> rw [h] <;> decide

set_option maxRecDepth 100000 in
set_option maxHeartbeats 8000000 in
theorem sRowsCols_yes (A : Option Addr) (n c : Nat) (ss : List ByteArray) (w : World) (hr : Rd w 1 A n (strCells ss)) (hF : rcB ss = true) :
    Calls Tryd.prog 11 #[.slice A n c] w fun e w' => ∃ A1 n1 c1 A2 n2 c2, e = .returned (.tuple #[.slice A1 n1 c1, .slice A2 n2 c2, .int .i64 (rcN ss), .bool true]) ∧ w'.ownsRow w.heap.size 3 1 (.slice A1 n1 c1) n1 (intCells (rowsR ss)) ∧ w'.ownsRow w.heap.size 3 1 (.slice A2 n2 c2) n2 (intCells (colsR ss)) ∧ Below w.heap.size w w' := by
  obtain ⟨b1, b2, b3, b4, hall⟩ := rcB_true hF
  rw [show rowsR ss = selL (rowP ss) ss.length by simp [rowsR, hF], show colsR ss = selL (colP ss) (sizeW ss) by simp [colsR, hF], show rcN ss = (((selL (rowP ss) ss.length).length * (selL (colP ss) (sizeW ss)).length : Nat) : Int) by simp [rcN, rowsR, colsR, hF]]
  have hl := hr.slen
  rw [hl] at b1 b2 ⊢
  have HL := Lib.hid hl
  obtain ⟨W, hW⟩ : ∃ W, W = sizeW ss := ⟨_, rfl⟩
  rw [← hW] at b3 b4 hall ⊢
  have HALL := Lib.hid hall
  have h1 : inB (n : Int) 1 20 = true := by simp [inB]; omega
  clear hl hW hall hF
  obtain ⟨b0, o0, rfl, l0, hx0, p0⟩ := hr.str (show 0 < n by omega)
  have p0' : w.cell? ⟨b0, o0, none⟩ = some (.string ss[0]) := p0
  have HZ0 := Lib.hid (HALL.out _ (List.getElem_mem hx0)).2
  have hz0 : (ss[0]).size ≤ 60 := by rw [HZ0.out]; exact b4
  go_enter Tryd.func11, Tryd.ntmps11
  go_wp2_with (go_at_call 20; refine (l1In_any _ _ _ _).mono ?_; rintro e wx ⟨rfl, rfl⟩; rw [h1])
  go_loop [7, 19] (fun _ i => ∃ k : Nat, k ≤ n ∧ i = .int .i64 k) (fun _ i => n - (intOf i).toNat)
  case atStart => exact ⟨0, Nat.zero_le _, rfl⟩
  case round =>
    obtain ⟨k, hk, rfl⟩ := hrel
    by_cases hlt : k < n
    · obtain ⟨b5, o5, e5, l5, hx, p5⟩ := hr.str hlt
      simp only [Option.some.injEq, Addr.mk.injEq, and_true] at e5
      obtain ⟨rfl, rfl⟩ := e5
      have ha := HALL.out _ (List.getElem_mem hx)
      have hsk : (ss[k]).size ≤ 60 := by rw [ha.2]; exact b4
      have HB := Lib.hid (fun wx => bxBox_any ss[k] (by omega) wx)
      rw [ha.1] at HB
      have hqi : (((ss[k]).size : Int) != ((ss[0]).size : Int)) = false := by simp; have := HZ0.out; omega
      generalize ss[k] = t at *
      generalize ss[0] = t0 at *
      go_wp2_with (go_at_call 19; refine (HB.out _).mono ?_; rintro e wx ⟨rfl, rfl⟩)
      go_round
      case rel => exact ⟨k + 1, by omega, by go_num⟩
      case measure => simp [intOf]; omega
    · have hki : ¬ (k : Int) < (n : Int) := by omega
      have HR := Lib.hid hr
      clear hlt hr p0 p0'
      go_wp2
      go_loopw [8, 9, 10, 11, 38] (fun u v _ _ i wr => ∃ (y n1 n2 : Nat) (A1 A2 : Option Addr) (c1 c2 : Nat), y ≤ n ∧ i = .int .i64 y ∧ u = .slice A1 n1 c1 ∧ v = .slice A2 n2 c2 ∧ wr.ownsRow w.heap.size 3 1 (.slice A1 n1 c1) n1 (intCells (selL (rpB ss y 0) n)) ∧ wr.ownsRow w.heap.size 3 1 (.slice A2 n2 c2) n2 (intCells (selL (cpB ss y 0) W)) ∧ Hid ((n1 = 0 → A1 = none ∧ c1 = 0) ∧ (n2 = 0 → A2 = none ∧ c2 = 0)) ∧ Below w.heap.size w wr) (fun _ _ _ _ i _ => n - (intOf i).toNat)
      case atStart =>
        have e1 : selL (rpB ss 0 0) n = [] := by
          rw [selL_congr (q := fun _ => false) (fun z _ => by rw [rpB_start]; simp)]; simp [selL]
        have e2 : selL (cpB ss 0 0) W = [] := by
          rw [selL_congr (q := fun _ => false) (fun z _ => cpB_start ss z)]; simp [selL]
        exact ⟨0, 0, 0, none, none, 0, 0, Nat.zero_le _, rfl, rfl, rfl, by rw [e1]; exact World.ownsRow_nil _ _ _ _, by rw [e2]; exact World.ownsRow_nil _ _ _ _, ⟨fun _ => ⟨rfl, rfl⟩, fun _ => ⟨rfl, rfl⟩⟩, Below.refl _ _⟩
      case round =>
        obtain ⟨y, n1, n2, A1, A2, c1, c2, hy, rfl, rfl, rfl, own1, own2, hz12, hB⟩ := hrel
        obtain ⟨wo, rfl⟩ : ∃ wo, wo = wr := ⟨_, rfl⟩
        have sB := hB.size
        by_cases hly : y < n
        · obtain ⟨b5, o5, e5, l5, hx, p5⟩ := (HR.out.later hB (Nat.le_refl _)).str hly
          simp only [Option.some.injEq, Addr.mk.injEq, and_true] at e5
          obtain ⟨rfl, rfl⟩ := e5
          have ha := HALL.out _ (List.getElem_mem hx)
          have HGD : Hid (ss.getD y ByteArray.empty = ss[y]) := by simp [Hid, List.getD, List.getElem?_eq_getElem hx]
          have HASC := Lib.hid (fun x (h : x < (ss[y]).size) => pbB_ascii ha.1 h)
          have hsy : (ss[y]).size = W := ha.2
          have HDL : Hid ((ss[y]).data.toList.length = (ss[y]).size) := Array.length_toList
          have HAT := Lib.hid (fun x (h : x < (ss[y]).size) => (rfl : (ss[y]).data.toList[x]'(Nat.lt_of_lt_of_eq h HDL.out.symm) = (ss[y])[x]))
          have HGX := Lib.hid (fun x (h : x < (ss[y]).size) => (show (ss.getD y ByteArray.empty).data.toList.getD x 0 = (ss[y])[x] by rw [HGD.out, List.getD, List.getElem?_eq_getElem (Nat.lt_of_lt_of_eq h HDL.out.symm)]; rfl))
          have HRN := Lib.hid (fun x (h : x < (ss[y]).size) => rpB_next (ss := ss) (y := y) (x := x) (b := (ss[y])[x]) (by rw [HGD.out]; exact Nat.lt_of_lt_of_eq h HDL.out.symm) (by simp only [HGD.out]; rfl))
          have HCN := Lib.hid (fun x (h : x < (ss[y]).size) => cpB_next (HGX.out x h))
          have HRW : Hid (∀ z, rpB ss y W z = rpB ss (y + 1) 0 z) := fun z => rpB_row (by rw [HGD.out]; exact Nat.le_of_eq (HDL.out.trans hsy)) z
          have HCW : Hid (∀ z, z < W → cpB ss y W z = cpB ss (y + 1) 0 z) := fun z hz => cpB_row hx hz
          have O1 := Lib.hid (own_later own1 ((Below.refl _ _).alloc (Nat.le_refl _) (.stringIter ss[y] 0)) (Nat.le_refl _))
          have O2 := Lib.hid (own_later own2 ((Below.refl _ _).alloc (Nat.le_refl _) (.stringIter ss[y] 0)) (Nat.le_refl _))
          have BA := Lib.hid (hB.alloc sB (.stringIter ss[y] 0))
          have IA : Hid (ItAt (wo.alloc (.stringIter ss[y] 0)) wo.heap.size ss[y] 0) := by
            simp only [Hid]; unfold ItAt; show (wo.heap.push _)[wo.heap.size]? = _; simp
          clear own1 own2 ha
          generalize ss[y] = t at *
          clear hx
          go_wp2
          go_loopw [8, 9, 12] (fun u v _ wr => ∃ (x n1 n2 : Nat) (A1 A2 : Option Addr) (c1 c2 : Nat), x ≤ W ∧ u = .slice A1 n1 c1 ∧ v = .slice A2 n2 c2 ∧ wr.ownsRow w.heap.size 3 1 (.slice A1 n1 c1) n1 (intCells (selL (rpB ss y x) n)) ∧ wr.ownsRow w.heap.size 3 1 (.slice A2 n2 c2) n2 (intCells (selL (cpB ss y x) W)) ∧ Hid ((n1 = 0 → A1 = none ∧ c1 = 0) ∧ (n2 = 0 → A2 = none ∧ c2 = 0)) ∧ ItAt wr wo.heap.size t x ∧ wo.heap.size + 1 ≤ wr.heap.size ∧ Below w.heap.size w wr) (fun _ _ _ wr => W - wr.iterPos wo.heap.size)
          case atStart => exact ⟨0, n1, n2, A1, A2, c1, c2, Nat.zero_le _, rfl, rfl, O1.out, O2.out, hz12, IA.out, by show wo.heap.size + 1 ≤ (wo.alloc (.stringIter t 0)).heap.size; simp, BA.out⟩
          case round =>
            clear O1 O2 BA IA hz12 hB
            obtain ⟨x, m1, m2, C1, C2, d1, d2, hx, rfl, rfl, own1, own2, hz34, hit, hsz, hB⟩ := hrel
            have hip := Lib.hid (iterPosR hit)
            by_cases hlx : x < W
            · have hxs : x < t.size := by omega
              have hnx : ∀ ty, (Instr.next (.pointer (some ⟨wo.heap.size, 0, none⟩)) true ty).run Tryd.prog wr = _ := fun ty => Lib.run_next_ascii_at wr wo.heap.size t x ty hit hxs (HASC.out x hxs)
              have own1' := own_iter own1 hit (x + 1)
              have own2' := own_iter own2 hit (x + 1)
              have hit2 : ItAt (wr.iterAt wo.heap.size t (x + 1)) wo.heap.size t (x + 1) := Lib.iterAt_heap _ _ _ _ (x + 1) hit
              have hB2 := Lib.below_iterAt hB sB t (x + 1)
              have hsz2 : wo.heap.size + 1 ≤ (wr.iterAt wo.heap.size t (x + 1)).heap.size := by rw [Lib.iterAt_size]; exact hsz
              have HN1 := Lib.hid (HRN.out x hxs)
              have HN2 := Lib.hid (HCN.out x hxs)
              clear own1 own2 hit hB
              generalize hwi : wr.iterAt wo.heap.size t (x + 1) = wi at *
              clear hwi
              have hsB2 := hB2.size
              have hn20 : m1 ≤ 20 := by have := own1'.1; rw [length_intCells] at this; have := length_selL (rpB ss y x) n; omega
              have hn60 : m2 ≤ 60 := by have := own2'.1; rw [length_intCells] at this; have := length_selL (cpB ss y x) W; omega
              by_cases hb : t[x] = 120
              · have hbi : (((t[x]).toNat : Int) == 120) = true := by rw [hb]; decide
                have E1 : Hid (putI (selL (rpB ss y x) n) (y : Int) = selL (rpB ss y (x + 1)) n) := by
                  simp only [Hid]; rw [putI_sel _ hly]
                  exact selL_congr fun z _ => by rw [HN1.out z, hb]; simp
                have E2 : Hid (putI (selL (cpB ss y x) W) (x : Int) = selL (cpB ss y (x + 1)) W) := by
                  simp only [Hid]; rw [putI_sel _ hlx]
                  exact selL_congr fun z _ => by rw [HN2.out z, hb]; simp
                have HP1 := Lib.hid (l1Put_any C1 m1 d1 w.heap.size _ (y : Int) wi own1' hz34.out.1 (by omega) hsB2)
                have HO2 := Lib.hid own2'
                have HI2 := Lib.hid hit2
                have HBB2 := Lib.hid hB2
                clear hb own1' own2' hit2 hB2
                go_wp2_with fail
                refine HP1.out.mono ?_; rintro e w3 ⟨C3, m3, d3, rfl, own3, hb3, hm3⟩
                have s3 := hb3.size
                have own4 := own_later HO2.out hb3 (Nat.le_refl _)
                have hit3 : ItAt w3 wo.heap.size t (x + 1) := (hb3.block wo.heap.size (by omega)).trans HI2.out
                have hB3 := HBB2.out.trans (hb3.mono hsB2)
                rw [E1.out] at own3
                have HP2 := Lib.hid (l1Put_any C2 m2 d2 w.heap.size _ (x : Int) w3 own4 hz34.out.2 (by omega) hB3.size)
                have HO3 := Lib.hid own3
                have HI3 := Lib.hid hit3
                have HBB3 := Lib.hid hB3
                clear own3 own4 hit3 hB3 hb3
                go_wp2_with fail
                refine HP2.out.mono ?_; rintro e w5 ⟨C5, m5, d5, rfl, own5, hb5, hm5⟩
                have s5 := hb5.size
                have own6 := own_later HO3.out hb5 (Nat.le_refl _)
                have hit5 : ItAt w5 wo.heap.size t (x + 1) := (hb5.block wo.heap.size (by omega)).trans HI3.out
                have hB5 := HBB3.out.trans (hb5.mono HBB3.out.size)
                rw [E2.out] at own5
                have hip5 := Lib.hid (iterPosR hit5)
                have O5 := Lib.hid own5
                have O6 := Lib.hid own6
                have I5 := Lib.hid hit5
                have B5 := Lib.hid hB5
                clear own5 own6 hit5 hB5 hb5
                go_wp2
                go_roundw
                case rel => exact ⟨x + 1, m3, m5, C3, C5, d3, d5, by omega, rfl, rfl, O6.out, O5.out, ⟨fun h => by omega, fun h => by omega⟩, I5.out, by omega, B5.out⟩
                case measure => rw [hip.out, hip5.out]; omega
              · have hbi : (((t[x]).toNat : Int) == 120) = false := by
                  simp; intro h; exact hb (UInt8.toNat_inj.1 (by show _ = 120; omega))
                have hbb : (t[x] == 120) = false := by simp [hb]
                have E1 : Hid (selL (rpB ss y x) n = selL (rpB ss y (x + 1)) n) := selL_congr fun z _ => by rw [HN1.out z, hbb]; simp
                have E2 : Hid (selL (cpB ss y x) W = selL (cpB ss y (x + 1)) W) := selL_congr fun z _ => by rw [HN2.out z, hbb]; simp
                rw [E1.out] at own1'
                rw [E2.out] at own2'
                have hip5 := Lib.hid (iterPosR hit2)
                have O5 := Lib.hid own1'
                have O6 := Lib.hid own2'
                have I5 := Lib.hid hit2
                have B5 := Lib.hid hB2
                clear own1' own2' hit2 hB2 hb hbb
                go_wp2
                go_roundw
                case rel => exact ⟨x + 1, m1, m2, C1, C2, d1, d2, by omega, rfl, rfl, O5.out, O6.out, hz34, I5.out, by omega, B5.out⟩
                case measure => rw [hip.out, hip5.out]; omega
            · have hxs : ¬ x < t.size := by omega
              have hnx : ∀ ty, (Instr.next (.pointer (some ⟨wo.heap.size, 0, none⟩)) true ty).run Tryd.prog wr = _ := fun ty => Lib.run_next_end_at wr wo.heap.size t x ty hit hxs
              have hxW : x = W := by omega
              rw [hxW, selL_congr (fun z _ => HRW.out z)] at own1
              rw [hxW, selL_congr (fun z hz => HCW.out z hz)] at own2
              have O5 := Lib.hid own1
              have O6 := Lib.hid own2
              have B5 := Lib.hid hB
              clear own1 own2 hit hB hxW
              go_wp2
              go_roundw
              case rel => exact ⟨y + 1, m1, m2, C1, C2, d1, d2, by omega, by go_num, rfl, rfl, O5.out, O6.out, hz34, B5.out⟩
              case measure => simp [intOf]; omega
        · have hyn : y = n := by omega
          have O5 : Hid (wo.ownsRow w.heap.size 3 1 (.slice A1 n1 c1) n1 (intCells (selL (rowP ss) n))) := by
            simp only [Hid]; rw [← selL_congr (p := rpB ss y 0) (fun z hz => by rw [hyn]; exact rpB_end ss hz)]; exact own1
          have O6 : Hid (wo.ownsRow w.heap.size 3 1 (.slice A2 n2 c2) n2 (intCells (selL (colP ss) W))) := by
            simp only [Hid]; rw [← selL_congr (p := cpB ss y 0) (fun z hz => by rw [hyn]; exact cpB_end ss HL.out z)]; exact own2
          have ML : Hid ((selL (rowP ss) n).length = n1) := by have := O5.out.1; rw [length_intCells] at this; simp only [Hid]; omega
          have QL : Hid ((selL (colP ss) W).length = n2) := by have := O6.out.1; rw [length_intCells] at this; simp only [Hid]; omega
          have hm20 : n1 ≤ 20 := by have := length_selL (rowP ss) n; have := ML.out; omega
          have hq60 : n2 ≤ 60 := by have := length_selL (colP ss) W; have := QL.out; omega
          obtain ⟨z, hz⟩ : ∃ z, z = n1 * n2 := ⟨_, rfl⟩
          have e2 : wrap64 ((n1 : Int) * (n2 : Int)) = (z : Int) := by
            have hmq : n1 * n2 ≤ 20 * 60 := Nat.mul_le_mul hm20 hq60
            have : (n1 : Int) * (n2 : Int) = (z : Int) := by rw [hz]; push_cast; rfl
            rw [this]; exact IntWalk.wrap64_in _ (by omega)
          have HZ := Lib.hid hz
          have hki2 : ¬ (y : Int) < (n : Int) := by omega
          have BF := Lib.hid hB
          clear own1 own2 hB hz hyn hly
          go_wp2
          refine bodyPost_ret (v := .tuple #[.slice A1 n1 c1, .slice A2 n2 c2, .int .i64 (z : Int), .bool true]) (by simp [results, Tryd.results11, go_sem, e2]) rfl ?_
          exact ⟨A1, n1, c1, A2, n2, c2, by rw [ML.out, QL.out, HZ.out]; first | rfl | (push_cast; rfl), O5.out, O6.out, BF.out⟩

theorem sRowsCols_any (A : Option Addr) (n c : Nat) (ss : List ByteArray) (w : World) (hr : Rd w 1 A n (strCells ss)) (hsz : ∀ s ∈ ss, s.size ≤ 9223372036854775807) (hn : n ≤ 1048576) :
    Calls Tryd.prog 11 #[.slice A n c] w fun e w' => ∃ A1 n1 c1 A2 n2 c2, e = .returned (.tuple #[.slice A1 n1 c1, .slice A2 n2 c2, .int .i64 (rcN ss), .bool (rcB ss)]) ∧ w'.ownsRow w.heap.size 3 1 (.slice A1 n1 c1) n1 (intCells (rowsR ss)) ∧ w'.ownsRow w.heap.size 3 1 (.slice A2 n2 c2) n2 (intCells (colsR ss)) ∧ Below w.heap.size w w' := by
  cases hF : rcB ss
  · obtain ⟨e1, e2, e3⟩ := rc_no hF
    rw [e1, e2, e3]
    exact (sRowsCols_no A n c ss w hr hsz hn hF).mono fun e w' ⟨h1, h2⟩ => ⟨none, 0, 0, none, 0, 0, h1, by rw [← h2]; exact World.ownsRow_nil _ _ _ _, by rw [← h2]; exact World.ownsRow_nil _ _ _ _, by rw [← h2]; exact Below.refl _ _⟩
  · exact sRowsCols_yes A n c ss w hr hF
end Go.Proofs.YtcggiekhlophlabDoor
