/-
  Contract: the model's table of heaps (cmHeaps).
-/
import Derived.Test.YtghlgmbekgfmnaaKeyS
import Derived.Test.YtghlgmbekgfmnaaMovesS
namespace Go.Proofs.Ytghlgmbekgfmnaa
open Go.RowKit
set_option linter.unusedVariables false

/-- which heaps the first j bites leave -/
def SeenB (sb : List Bool) (l : List Int) (j : Nat) : Prop := sb.length = 37 ∧ ∀ v, v < 37 → (sb.getD v false = true ↔ (v : Int) ∈ (grL l).take j)
theorem SeenB.zero (l : List Int) : SeenB (List.replicate 37 false) l 0 := ⟨List.length_replicate, fun v hv => by
  have e : (List.replicate 37 false).getD v false = false := by simp only [List.getD, List.getElem?_replicate]; rw [if_pos hv]; rfl
  rw [e]
  simp⟩
theorem getD_setB {l : List Bool} {k j : Nat} {v : Bool} (hk : k < l.length) : (l.set k v).getD j false = if j = k then v else l.getD j false := by
  by_cases e : j = k
  · subst e; rw [if_pos rfl]; simp [List.getD, hk]
  · rw [if_neg e]
    simp only [List.getD]
    rw [List.getElem?_set_ne (fun q => e q.symm)]
theorem SeenB.put {sb : List Bool} {l : List Int} {j v : Nat} (h : SeenB sb l j) (hv : v < 37) (hg : (grL l).take (j + 1) = (grL l).take j ++ [(v : Int)]) : SeenB (sb.set v true) l (j + 1) := by
  refine ⟨by simpa using h.1, fun u hu => ?_⟩
  rw [getD_setB (by rw [h.1]; exact hv), hg]
  by_cases e : u = v
  · subst e; simp
  · rw [if_neg e, h.2 u hu]
    simp only [List.mem_append, List.mem_singleton]
    constructor
    · exact .inl
    · rintro (q | q)
      · exact q
      · exact absurd (by omega) e
theorem grL_len35 {l : List Int} (hl : ChOK l) : (grL l).length ≤ 35 := by
  have e : (grL l).length = (mv (fun j => l.getD j 0) 6).length := by simp only [grL, List.length_map]; rfl
  have h0 : mvP (fun j => l.getD j 0) 5 ((l.getD 5 0).toNat) = mv (fun j => l.getD j 0) 6 := mvP_up _ 5 _ (by have := hl.ge0 5; show l.getD 5 0 = _; omega)
  rw [e]
  by_cases hz : (l.getD 5 0).toNat = 0
  · have h1 : mv (fun j => l.getD j 0) 6 = mv (fun j => l.getD j 0) 5 := by rw [mv_succ]; simp only [hz]; simp [rowM]
    rw [h1]
    have := length_mv hl.fall 5
    omega
  · obtain ⟨q, hq⟩ : ∃ q, (l.getD 5 0).toNat = q + 1 := ⟨(l.getD 5 0).toNat - 1, by omega⟩
    rw [← h0, hq]
    exact length_mvP_at hl.fall (by omega) (by show q < (l.getD 5 0).toNat; omega)
theorem tI_ne : (4 : Nat) ≠ 3 ∧ (4 : Nat) ≠ 39 ∧ (3 : Nat) ≠ 39 := by decide

theorem OwnSS.kept_of {w w' : World} {B n : Nat} {v : Value} {R : Nat → List Int} (h : OwnSS w B v n R) {B' e z m : Nat} {u : Value} {xs : List Value} (hu : w.ownsRow B' e z u m xs) (hg : w.grownBy w' u.ownBlock) (h1 : e ≠ 3) (h2 : e ≠ 39) : OwnSS w' B v n R := by
  obtain ⟨A, C, a, b, c⟩ := h
  exact ⟨A, C, a.kept hg (own_types a hu (fun q => h2 q.symm)), fun i hi => (b i hi).kept hg (own_types (b i hi) hu (fun q => h1 q.symm)), c⟩

set_option maxRecDepth 100000 in
set_option maxHeartbeats 8000000 in
theorem cmHeaps_any (W H : Nat) (w : World) (hW : W ≤ 6) (hH : H ≤ 6) :
    Calls Try.prog 98 #[.int .i64 (W : Int), .int .i64 (H : Int)] w fun e w' => ∃ g tbl, e = .returned (.slice (some ⟨g, 0, none⟩) 117649 117649) ∧ w'.ownsRow w.heap.size 3 1 (.slice (some ⟨g, 0, none⟩) 117649 117649) 117649 (intCells tbl) ∧ TabC tbl (chs H W []) (chs H W []).length ∧ Below w.heap.size w w' := by
  obtain ⟨i0, hi, hz0, hz1, hz2⟩ := info_parts int_info
  obtain ⟨j0, hj, hy0, hy1, hy2⟩ := info_parts boolI_info
  have HA := Lib.hid (fun wx => cmAll_any W H wx hW hH)
  go_enter Try.func98, Try.ntmps98
  go_wp2_with (at_make; refine wpList_make_full _ rfl (.const (.int .i64 117649)) (.const (.int .i64 117649)) 39 rfl w.heap.size 3 i0 (.int .i64 0) 1 Try.underlying39 hi hz0 hz1 .i64 .i64 _ _ 117649 rfl rfl rfl rfl ?b2 ?b3 (Nat.le_refl _) ?_)
  case b2 => rw [hz2]; omega
  case b3 => simp only [maxLen]; omega
  intro wt hownT hgrowT
  have hbT : Below w.heap.size w wt := (Below.refl _ _).grown hgrowT (Nat.le_refl _) (fun k hk => by cases hk)
  obtain ⟨tbl0, ht0, hown0⟩ : ∃ tbl0 : List Int, tbl0.length = 117649 ∧ wt.ownsRow w.heap.size 3 1 (.slice (some ⟨w.heap.size, 0, none⟩) 117649 117649) 117649 (intCells tbl0) := by
    refine ⟨List.replicate 117649 0, List.length_replicate, ?_⟩
    have e : (madeCells #[Value.int IntKind.i64 0] 117649).toList = intCells (List.replicate 117649 0) := by
      rw [toList_madeCells_one]
      unfold intCells
      rw [List.map_replicate]
    rw [← e]
    exact hownT
  have HT0 := Lib.hid ht0
  have HO0 := Lib.hid hown0
  have HBT := Lib.hid hbT
  have sT := (hown0.lt w.heap.size rfl).2
  clear hownT hgrowT ht0 hown0 hbT
  go_wp2_with fail
  refine (HA.out _).mono ?_; rintro e w1 ⟨A1, m, c1, rfl, hL, hss, hb1⟩
  have hown1 := own_later HO0.out hb1 (Nat.le_refl _)
  have hb10 : Below w.heap.size w w1 := HBT.out.trans (hb1.mono HBT.out.size)
  have HO1 := Lib.hid hown1
  have HB10 := Lib.hid hb10
  have HSS := Lib.hid hss
  have HLL := Lib.hid hL
  have sW1 := hb1.size
  have hm923 : m ≤ 923 := by rw [← hL, length_chs]; exact cntC_le hH hW
  clear hown1 hb10 hss hL hb1
  generalize hLs : chs H W [] = Ls at *
  have HLS := Lib.hid hLs
  clear hLs
  go_wp2
  go_loopw [17] (fun i wr => ∃ (p : Nat) (tbl : List Int), p ≤ m ∧ i = .int .i64 p ∧ Hid (tbl.length = 117649) ∧ wr.ownsRow w.heap.size 3 1 (.slice (some ⟨w.heap.size, 0, none⟩) 117649 117649) 117649 (intCells tbl) ∧ Hid (TabC tbl Ls p) ∧ OwnSS wr wt.heap.size (.slice A1 m c1) m (lsR Ls) ∧ Below w.heap.size w wr ∧ wt.heap.size ≤ wr.heap.size) (fun i _ => m - (intOf i).toNat)
  case atStart => exact ⟨0, tbl0, Nat.zero_le _, rfl, HT0.out, HO1.out, fun i _ hi => absurd hi (by omega), HSS.out, HB10.out, sW1⟩
  case round =>
    clear HO1 HSS HB10 HO0
    obtain ⟨p, tbl, hp, rfl, htl, hown, htab, hss, hB, hwt⟩ := hrel
    have sB := hB.size
    by_cases hlt : p < m
    · obtain ⟨wo, rfl⟩ : ∃ wo : World, wo = wr := ⟨_, rfl⟩
      have hpl : p < Ls.length := by rw [HLL.out]; exact hlt
      have hln : lsR Ls p = Ls[p] := by simp [lsR, List.getD, List.getElem?_eq_getElem hpl]
      have HOK : Hid (ChOK Ls[p]) := ((mem_all hH hW).1 (by rw [HLS.out]; exact List.getElem_mem hpl)).1
      obtain ⟨AC, CC, hac⟩ := hss
      obtain ⟨b, rfl, hb1', hbl⟩ := own_at hac.top (by omega)
      have p0 := hac.top.cellAt p (by omega)
      rw [ssCells_at hlt] at p0
      have r0 := hac.row p hlt
      have hss : OwnSS wo wt.heap.size (.slice (some ⟨b, 0, none⟩) m c1) m (lsR Ls) := ⟨AC, CC, hac⟩
      rw [hln] at p0 r0
      clear hac
      generalize AC p = a at *
      generalize CC p = cc at *
      clear AC CC
      have HBF : Hid (∀ x y, canC Ls[p] x y = true → tbl.getD (keyI (biteL Ls[p] x y)).toNat 0 = (gr (biteL Ls[p] x y) : Nat) + 1) := by
        intro x y hc
        have h := HLS.out
        subst h
        exact bite_before hH hW hpl hc htab.out
      have HPUT : Hid (TabC (tbl.set (keyI Ls[p]).toNat ((gr Ls[p] : Nat) + 1)) Ls (p + 1)) := by
        have h := HLS.out
        subst h
        exact TabC.put hH hW htab.out hpl htl.out
      generalize hl : Ls[p] = l at *
      clear hl hln hpl
      have hl6 := HOK.out.2.1
      have HOW := Lib.hid hown
      have HSS := Lib.hid hss
      have HBB := Lib.hid hB
      have HR0 := Lib.hid r0
      clear hown hss hB r0
      go_wp2_with (at_make; refine wpList_make_full _ rfl (.const (.int .i64 37)) (.const (.int .i64 37)) 112 rfl wo.heap.size 4 j0 (.bool false) 1 Try.underlying112 hj hy0 hy1 .i64 .i64 _ _ 37 rfl rfl rfl rfl ?b4 ?b5 (Nat.le_refl _) ?_)
      case b4 => rw [hy2]; omega
      case b5 => simp only [maxLen]; omega
      intro ws hownS0 hgrowS
      have hbS : Below wo.heap.size wo ws := (Below.refl _ _).grown hgrowS (Nat.le_refl _) (fun k hk => by cases hk)
      have hownS : ws.ownsRow wo.heap.size 4 1 (.slice (some ⟨wo.heap.size, 0, none⟩) 37 37) 37 (boolCells (List.replicate 37 false)) := by
        have e : (madeCells #[Value.bool false] 37).toList = boolCells (List.replicate 37 false) := by
          rw [toList_madeCells_one]
          unfold boolCells
          rw [List.map_replicate]
        rw [← e]
        exact hownS0
      have sS := (hownS.lt wo.heap.size rfl).2
      have HOS := Lib.hid hownS
      have HBS := Lib.hid hbS
      have HRS := Lib.hid (own_later HR0.out hbS (Nat.le_refl _))
      have HCM := Lib.hid (fun wx h => cmMoves_any a l.length cc l wx h HOK.out)
      clear hownS0 hgrowS hbS hownS
      go_wp2_with fail
      refine (HCM.out _ (Rd.of_own HRS.out)).mono ?_; rintro e w2 ⟨A2, n2, c2, rfl, h36, hL2, hs2, hb2⟩
      have hb20 : Below wo.heap.size wo w2 := HBS.out.trans (hb2.mono HBS.out.size)
      have hML : mv (fun j => l.getD j 0) l.length = mvL l := mv_len HOK.out
      rw [hML] at hL2 hs2
      have HL2 := Lib.hid hL2
      have HS2 := Lib.hid hs2
      have HOS2 := Lib.hid (own_later HOS.out hb2 (Nat.le_refl _))
      have HOW2 := Lib.hid (own_later HOW.out hb20 (Nat.le_refl _))
      have HSS2 := Lib.hid (HSS.out.later hb20 (Nat.le_refl _))
      have HR2 := Lib.hid (own_later HRS.out hb2 (Nat.le_refl _))
      have HB2 := Lib.hid (HBB.out.trans (hb20.mono sB))
      have s2 := hb2.size
      clear hb2 hb20 hML hL2 hs2 HOS HBS HRS HCM HOW HSS HR0 HBB
      go_wp2
      go_loopw [25] (fun i wq => ∃ (j : Nat) (sb : List Bool), j ≤ n2 ∧ i = .int .i64 j ∧ Hid (SeenB sb l j) ∧ wq.ownsRow wo.heap.size 4 1 (.slice (some ⟨wo.heap.size, 0, none⟩) 37 37) 37 (boolCells sb) ∧ wq.ownsRow w.heap.size 3 1 (.slice (some ⟨w.heap.size, 0, none⟩) 117649 117649) 117649 (intCells tbl) ∧ OwnSS wq wt.heap.size (.slice (some ⟨b, 0, none⟩) m c1) m (lsR Ls) ∧ OwnSS wq ws.heap.size (.slice A2 n2 c2) n2 (prR (mvL l)) ∧ wq.ownsRow wt.heap.size 3 1 (.slice a l.length cc) l.length (intCells l) ∧ Below w.heap.size w wq ∧ ws.heap.size ≤ wq.heap.size) (fun i _ => n2 - (intOf i).toNat)
      case atStart => exact ⟨0, _, Nat.zero_le _, rfl, SeenB.zero l, HOS2.out, HOW2.out, HSS2.out, HS2.out, HR2.out, HB2.out, s2⟩
      case round =>
        clear HOS2 HOW2 HSS2 HS2 HR2 HB2
        obtain ⟨j, sb, hjn, rfl, hsb, hos, how, hssl, hsm, hrl, hB, hws⟩ := hrel
        by_cases hjl : j < n2
        · obtain ⟨AM, CM, hac⟩ := hsm
          obtain ⟨bm, rfl, hbm1, hbm⟩ := own_at hac.top (by omega)
          have pm := hac.top.cellAt j (by omega)
          rw [ssCells_at hjl] at pm
          have hrowj := hac.row j hjl
          have hsm : OwnSS wr ws.heap.size (.slice (some ⟨bm, 0, none⟩) n2 c2) n2 (prR (mvL l)) := ⟨AM, CM, hac⟩
          clear hac
          have hjM : j < (mvL l).length := by rw [HL2.out]; exact hjl
          have hpr := prR_at hjM
          have hcan := mvL_can HOK.out (List.getElem_mem hjM)
          have hgl : (grL l).take (j + 1) = (grL l).take j ++ [((gr (biteL l ((mvL l)[j]).1 ((mvL l)[j]).2) : Nat) : Int)] := by
            have hk : j < (grL l).length := by simp only [grL, List.length_map]; exact hjM
            rw [List.take_succ_eq_append_getElem hk]
            congr 1
            simp only [grL, List.getElem_map]
          rw [hpr] at pm hrowj
          generalize ((mvL l)[j]).1 = x at *
          generalize ((mvL l)[j]).2 = y at *
          have h5 := canC_true hcan
          obtain ⟨yn, rfl⟩ : ∃ yn : Nat, y = yn := ⟨y.toNat, by omega⟩
          have HBOK := Lib.hid (biteL_ok HOK.out hcan)
          obtain ⟨kn, hkn⟩ : ∃ kn : Nat, keyI (biteL l x yn) = kn := ⟨(keyI (biteL l x yn)).toNat, by have := (keyI_in HBOK.out).1; omega⟩
          have hkn6 : kn < 117649 := by have := (keyI_in HBOK.out).2; omega
          obtain ⟨gv, hgv⟩ : ∃ gv : Nat, gr (biteL l x yn) = gv := ⟨_, rfl⟩
          have hgv6 : gv < 37 := by have := gr_le HBOK.out; omega
          have htv : tbl.getD kn 0 = (gv : Int) + 1 := by
            have h := HBF.out x yn hcan
            rw [hkn, hgv] at h
            simpa using h
          rw [hgv] at hgl
          have HBI := Lib.hid (fun wx h => cmBite_any a l.length cc l x yn wx h HOK.out h5.1 (by omega))
          have HKC : Hid (∀ (A : Option Addr) (n c : Nat) (wx : World), Rd wx 1 A n (intCells (biteL l x yn)) → Calls Try.prog 95 #[.slice A n c] wx fun e w' => e = .returned (.int .i64 (kn : Int)) ∧ wx = w') := fun A n c wx h => by
            have q := cmKey_any A n c (biteL l x yn) wx h HBOK.out
            rw [hkn] at q
            exact q
          obtain ⟨bx, e1, hbx1, hbx⟩ := own_at hrowj (by simp)
          rw [e1] at pm hrowj
          have q0 : wr.cell? ⟨bx, 0, none⟩ = some (.int .i64 x) := (hrowj.cellAt 0 (by simp)).trans rfl
          have q1 : wr.cell? ⟨bx, 1, none⟩ = some (.int .i64 (yn : Int)) := (hrowj.cellAt 1 (by simp)).trans rfl
          have pm' : wr.cell? ⟨bm, j, none⟩ = some (.slice (some ⟨bx, 0, none⟩) 2 (CM j)) := pm
          have hkni : (kn : Int) < 117649 := by omega
          have hgvi : (gv : Int) < 37 := by omega
          have hgvw : IntKind.i64.wrap (gv : Int) = (gv : Int) := IntWalk.i64_in _ (by omega)
          have hgv0 : (0 : Int) ≤ (gv : Int) := by omega
          have htc := how.cellAt kn (by omega)
          rw [show (intCells tbl)[kn]? = some (.int .i64 ((gv : Int) + 1)) by
            have hk2 : kn < tbl.length := by rw [htl.out]; exact hkn6
            simp only [intCells, List.getElem?_map, List.getElem?_eq_getElem hk2, Option.map_some]
            rw [← htv, getD_lt hk2]] at htc
          have hsc := hos.cellAt gv (by omega)
          have hsl : sb.length = 37 := hsb.out.1
          rw [boolCells_at (by omega)] at hsc
          have hsf := hos.frozenAt gv
          generalize sb[gv] = ov at *
          have hgne : wo.heap.size ≠ w.heap.size := by omega
          have hbxs : wo.heap.size ≠ bx := by omega
          have HOSb := Lib.hid hos
          have HOWb := Lib.hid how
          have HSLb := Lib.hid hssl
          have HSMb := Lib.hid hsm
          have HRLb := Lib.hid hrl
          have HBb := Lib.hid hB
          have HSBb : Hid (SeenB (sb.set gv true) l (j + 1)) := hsb.out.put hgv6 hgl
          have hgt := (how.lt w.heap.size rfl).2
          have hgs := (hos.lt wo.heap.size rfl).2
          clear hpr hcan h5 hrowj e1 pm hos how hssl hsm hrl hB htv hgl hsl hkn hgv hjM
          go_wp2
          refine wp_region_held_drew (S := (fun w' => w'.cell? ⟨bx, 0, none⟩ = some (.int .i64 x) ∧ w'.cell? ⟨bx, 1, none⟩ = some (.int .i64 (yn : Int)) ∧ w'.cell? ⟨w.heap.size, kn, none⟩ = some (.int .i64 ((gv : Int) + 1)))) (by kernel_rfl) ?_ (fun hHeld => ?_)
          · ((try dsimp only); (repeat' apply And.intro); all_goals ((repeat (first | (with_reducible refine cell_drew ?_) | (with_reducible refine cell_drewN _ ?_) | ((with_reducible refine cell_alloc ?_ ?_); · first | omega | (simp; done) | (simp; omega) | assumption) | ((with_reducible refine cell_set ?_ ?_); · first | (intro e; injection e; omega) | (intro e; simp at e; done) | (intro e; simp at e; omega)))); first | assumption | (simp; done)))
          refine reg_on (i := 0) (d := 29) (v := ?rv1) rfl rfl (by kernel_rfl) (by kernel_rfl) (by kernel_rfl) (fun _ _ _ h => h) (by rfl) ?ry1 (by assumption) ?rr1
          case ry1 => (intro wz hSw; (try dsimp only at hSw); go_simp; try with_reducible rfl)
          (try simp only [Act.put, List.setIfInBounds_toArray, List.set_cons_zero, List.set_cons_succ])
          refine reg_on (i := 1) (d := 30) (v := ?rv2) rfl rfl (by kernel_rfl) (by kernel_rfl) (by kernel_rfl) (fun _ _ _ h => h) (by rfl) ?ry2 (by assumption) ?rr2
          case ry2 => (intro wz hSw; (try dsimp only at hSw); go_simp; try with_reducible rfl)
          (try simp only [Act.put, List.setIfInBounds_toArray, List.set_cons_zero, List.set_cons_succ])
          refine reg_on (i := 2) (d := 31) (v := ?rv3) rfl rfl (by kernel_rfl) (by kernel_rfl) (by kernel_rfl) (fun _ _ _ h => h) (by rfl) ?ry3 (by assumption) ?rr3
          case ry3 => (intro wz hSw; (try dsimp only at hSw); go_simp; try with_reducible rfl)
          (try simp only [Act.put, List.setIfInBounds_toArray, List.set_cons_zero, List.set_cons_succ])
          refine reg_on (i := 3) (d := 32) (v := ?rv4) rfl rfl (by kernel_rfl) (by kernel_rfl) (by kernel_rfl) (fun _ _ _ h => h) (by rfl) ?ry4 (by assumption) ?rr4
          case ry4 => (intro wz hSw; (try dsimp only at hSw); go_simp; try with_reducible rfl)
          (try simp only [Act.put, List.setIfInBounds_toArray, List.set_cons_zero, List.set_cons_succ])
          refine reg_on (i := 4) (d := 33) (v := ?rv5) rfl rfl (by kernel_rfl) (by kernel_rfl) (by kernel_rfl) (fun _ _ _ h => h) (by rfl) ?ry5 (by assumption) ?rr5
          case ry5 => (intro wz hSw; (try dsimp only at hSw); go_simp; try with_reducible rfl)
          (try simp only [Act.put, List.setIfInBounds_toArray, List.set_cons_zero, List.set_cons_succ])
          refine reg_on (i := 5) (d := 34) (v := ?rv6) rfl rfl (by kernel_rfl) (by kernel_rfl) (by kernel_rfl) (fun _ _ _ h => h) (by rfl) ?ry6 (by assumption) ?rr6
          case ry6 => (intro wz hSw; (try dsimp only at hSw); go_simp; try with_reducible rfl)
          (try simp only [Act.put, List.setIfInBounds_toArray, List.set_cons_zero, List.set_cons_succ])
          refine reg_on (i := 6) (d := 35) (v := ?rv7) rfl rfl (by kernel_rfl) (by kernel_rfl) (by kernel_rfl) (fun _ _ _ h => h) (by rfl) ?ry7 (by assumption) ?rr7
          case ry7 => (intro wz hSw; (try dsimp only at hSw); go_simp; try with_reducible rfl)
          (try simp only [Act.put, List.setIfInBounds_toArray, List.set_cons_zero, List.set_cons_succ])
          refine reg_on (i := 7) (d := 36) (v := ?rv8) rfl rfl (by kernel_rfl) (by kernel_rfl) (by kernel_rfl) (fun _ _ _ h => h) (by rfl) ?ry8 (by assumption) ?rr8
          case ry8 => (intro wz hSw; (try dsimp only at hSw); go_simp; try with_reducible rfl)
          (try simp only [Act.put, List.setIfInBounds_toArray, List.set_cons_zero, List.set_cons_succ])
          refine reg_on (i := 8) (d := 37) (v := ?rv9) rfl rfl (by kernel_rfl) (by kernel_rfl) (by kernel_rfl) (fun _ _ _ h => h) (by rfl) ?ry9 (by assumption) ?rr9
          case ry9 => (intro wz hSw; (try dsimp only at hSw); go_simp; try with_reducible rfl)
          (try simp only [Act.put, List.setIfInBounds_toArray, List.set_cons_zero, List.set_cons_succ])
          refine wpAnyH_ready (rs := [9]) (by kernel_rfl) (by simp) ?_
          refine AllReadyH.cons rfl (fun K hK => ?_) AllReadyH.nil
          go_simp
          go_at_call 97; refine (HBI.out _ (by exact Rd.of_own HRLb.out)).mono ?_; rintro e w3 ⟨A3, n3, c3, rfl, o3, hb3⟩; have k0 : w3.cell? ⟨bx, 0, none⟩ = some (.int .i64 x) := (hb3.cell (p := ⟨bx, 0, none⟩) (by exact hbx)).trans (by first | assumption | (go_split_ands; assumption)); have k1 : w3.cell? ⟨bx, 1, none⟩ = some (.int .i64 (yn : Int)) := (hb3.cell (p := ⟨bx, 1, none⟩) (by exact hbx)).trans (by first | assumption | (go_split_ands; assumption)); have k2 : w3.cell? ⟨w.heap.size, kn, none⟩ = some (.int .i64 ((gv : Int) + 1)) := (hb3.cell (p := ⟨w.heap.size, kn, none⟩) (by exact hgt)).trans (by first | assumption | (go_split_ands; assumption)); have k3 : w3.cell? ⟨wo.heap.size, gv, none⟩ = some (.bool ov) := (hb3.cell (p := ⟨wo.heap.size, gv, none⟩) (by exact hgs)).trans (by exact hsc); have k4 : w3.frozen? ⟨wo.heap.size, gv, none⟩ = false := (hb3.frozen (p := ⟨wo.heap.size, gv, none⟩) (by exact hgs)).trans (by exact hsf)
          refine hK.out _ _ ?_ (fun hHeld => ?_)
          · ((try dsimp only); (repeat' apply And.intro); all_goals ((repeat (first | (with_reducible refine cell_drew ?_) | (with_reducible refine cell_drewN _ ?_) | ((with_reducible refine cell_alloc ?_ ?_); · first | omega | (simp; done) | (simp; omega) | assumption) | ((with_reducible refine cell_set ?_ ?_); · first | (intro e; injection e; omega) | (intro e; simp at e; done) | (intro e; simp at e; omega)))); first | assumption | (simp; done)))
          clear hK K
          (try simp only [Act.put, List.setIfInBounds_toArray, List.set_cons_zero, List.set_cons_succ])
          refine wpAnyH_ready (rs := [10]) (by kernel_rfl) (by simp) ?_
          refine AllReadyH.cons rfl (fun K hK => ?_) AllReadyH.nil
          go_simp
          go_at_call 95; refine (HKC.out _ _ _ _ (Rd.of_own o3)).mono ?_; rintro e wx ⟨rfl, rfl⟩
          refine hK.out _ _ ?_ (fun hHeld => ?_)
          · ((try dsimp only); (repeat' apply And.intro); all_goals ((repeat (first | (with_reducible refine cell_drew ?_) | (with_reducible refine cell_drewN _ ?_) | ((with_reducible refine cell_alloc ?_ ?_); · first | omega | (simp; done) | (simp; omega) | assumption) | ((with_reducible refine cell_set ?_ ?_); · first | (intro e; injection e; omega) | (intro e; simp at e; done) | (intro e; simp at e; omega)))); first | assumption | (simp; done)))
          clear hK K
          (try simp only [Act.put, List.setIfInBounds_toArray, List.set_cons_zero, List.set_cons_succ])
          refine reg_on (i := 11) (d := 40) (v := ?rv12) rfl rfl (by kernel_rfl) (by kernel_rfl) (by kernel_rfl) (fun _ _ _ h => h) (by rfl) ?ry12 (by assumption) ?rr12
          case ry12 => (intro wz hSw; (try dsimp only at hSw); go_simp; try with_reducible rfl)
          (try simp only [Act.put, List.setIfInBounds_toArray, List.set_cons_zero, List.set_cons_succ])
          refine reg_on (i := 12) (d := 41) (v := ?rv13) rfl rfl (by kernel_rfl) (by kernel_rfl) (by kernel_rfl) (fun _ _ _ h => h) (by rfl) ?ry13 (by assumption) ?rr13
          case ry13 => (intro wz hSw; (try dsimp only at hSw); go_simp; try with_reducible rfl)
          (try simp only [Act.put, List.setIfInBounds_toArray, List.set_cons_zero, List.set_cons_succ])
          refine reg_on (i := 13) (d := 42) (v := ?rv14) rfl rfl (by kernel_rfl) (by kernel_rfl) (by kernel_rfl) (fun _ _ _ h => h) (by rfl) ?ry14 (by assumption) ?rr14
          case ry14 => (intro wz hSw; (try dsimp only at hSw); go_simp; try with_reducible rfl)
          (try simp only [Act.put, List.setIfInBounds_toArray, List.set_cons_zero, List.set_cons_succ])
          refine reg_on (i := 14) (d := 43) (v := ?rv15) rfl rfl (by kernel_rfl) (by kernel_rfl) (by kernel_rfl) (fun _ _ _ h => h) (by rfl) ?ry15 (by assumption) ?rr15
          case ry15 => (intro wz hSw; (try dsimp only at hSw); go_simp; try with_reducible rfl)
          (try simp only [Act.put, List.setIfInBounds_toArray, List.set_cons_zero, List.set_cons_succ])
          refine wpAnyH_ready (rs := [15]) (by kernel_rfl) (by simp) ?_
          refine AllReadyH.cons rfl (fun K hK => ?_) AllReadyH.nil
          go_simp
          refine hK.out _ _ ?_ (fun hHeld => ?_)
          · ((try dsimp only); (repeat' apply And.intro); all_goals ((repeat (first | (with_reducible refine cell_drew ?_) | (with_reducible refine cell_drewN _ ?_) | ((with_reducible refine cell_alloc ?_ ?_); · first | omega | (simp; done) | (simp; omega) | assumption) | ((with_reducible refine cell_set ?_ ?_); · first | (intro e; injection e; omega) | (intro e; simp at e; done) | (intro e; simp at e; omega)))); first | assumption | (simp; done)))
          clear hK K
          (try simp only [Act.put, List.setIfInBounds_toArray, List.set_cons_zero, List.set_cons_succ])
          refine wpAnyH_done (by kernel_rfl) ?_ _
          have hb3w : Below wr.heap.size wr w3 := (Below.refl wr.heap.size wr).drew.trans hb3
          have os3 := own_later HOSb.out hb3w (Nat.le_refl _)
          have st := os3.stored gv (.bool true)
          rw [set_boolCells] at st
          have ow3 := (own_later HOWb.out hb3w (Nat.le_refl _)).kept st.2 (own_types (own_later HOWb.out hb3w (Nat.le_refl _)) os3 (fun q => tI_ne.1 q.symm))
          have sl3 := (HSLb.out.later hb3w (Nat.le_refl _)).kept_of os3 st.2 tI_ne.1 tI_ne.2.1
          have sm3 := (HSMb.out.later hb3w (Nat.le_refl _)).kept_of os3 st.2 tI_ne.1 tI_ne.2.1
          have rl3 := (own_later HRLb.out hb3w (Nat.le_refl _)).kept st.2 (own_types (own_later HRLb.out hb3w (Nat.le_refl _)) os3 (fun q => tI_ne.1 q.symm))
          have bl3 := (HBb.out.trans (hb3w.mono HBb.out.size)).setCell (p := ⟨wo.heap.size, gv, none⟩) (show w.heap.size ≤ wo.heap.size from sB) (.bool true)
          have sz3 : ws.heap.size ≤ (w3.setCell ⟨wo.heap.size, gv, none⟩ (.bool true)).heap.size := by have := hb3w.size; simp; omega
          have P3 := Lib.hid (show (w3.setCell ⟨wo.heap.size, gv, none⟩ (.bool true)).ownsRow wo.heap.size 4 1 (.slice (some ⟨wo.heap.size, 0, none⟩) 37 37) 37 (boolCells (sb.set gv true)) ∧ (w3.setCell ⟨wo.heap.size, gv, none⟩ (.bool true)).ownsRow w.heap.size 3 1 (.slice (some ⟨w.heap.size, 0, none⟩) 117649 117649) 117649 (intCells tbl) ∧ OwnSS (w3.setCell ⟨wo.heap.size, gv, none⟩ (.bool true)) wt.heap.size (.slice (some ⟨b, 0, none⟩) m c1) m (lsR Ls) ∧ OwnSS (w3.setCell ⟨wo.heap.size, gv, none⟩ (.bool true)) ws.heap.size (.slice (some ⟨bm, 0, none⟩) n2 c2) n2 (prR (mvL l)) ∧ (w3.setCell ⟨wo.heap.size, gv, none⟩ (.bool true)).ownsRow wt.heap.size 3 1 (.slice a l.length cc) l.length (intCells l) ∧ Below w.heap.size w (w3.setCell ⟨wo.heap.size, gv, none⟩ (.bool true)) ∧ ws.heap.size ≤ (w3.setCell ⟨wo.heap.size, gv, none⟩ (.bool true)).heap.size from ⟨st.1, ow3, sl3, sm3, rl3, bl3, sz3⟩)
          clear hb3w os3 st ow3 sl3 sm3 rl3 bl3 sz3 k0 k1 k2 k3 k4 o3 hb3 htc hsc hsf q0 q1 pm' HBI HKC
          go_wp2
          go_roundw
          case rel => exact ⟨j + 1, _, by omega, by go_num, HSBb.out, P3.out⟩
          case measure => simp [intOf]; omega
        · have hjn2 : j = n2 := by omega
          have hgn : (grL l).take j = grL l := List.take_of_length_le (by have h := HL2.out; have e : (grL l).length = (mvL l).length := by simp only [grL, List.length_map]
                                                                          omega)
          have HSB := hsb.out
          unfold SeenB at HSB
          rw [hgn] at HSB
          have HSBV := Lib.hid HSB
          have h35 := grL_len35 HOK.out
          have HOS := Lib.hid hos
          have HOW := Lib.hid how
          have HSL := Lib.hid hssl
          have HRL := Lib.hid hrl
          have HBB := Lib.hid hB
          clear hjn2 hgn HSB hsm hssl hrl hB hsb how
          go_wp2
          go_loop [11] (fun i => ∃ h : Nat, h ≤ 36 ∧ i = .int .i64 h ∧ Hid (∀ q, q < h → (q : Int) ∈ grL l)) (fun i => 37 - (intOf i).toNat)
          case atStart => exact ⟨0, by omega, rfl, fun q hq => absurd hq (by omega)⟩
          case round =>
            obtain ⟨h, hh, rfl, hT⟩ := hrel
            have hle := IsMex.le hT.out
            have h36' : h < 37 := by omega
            have hc := hos.cellAt h (by omega)
            rw [boolCells_at (by rw [HSBV.out.1]; omega)] at hc
            have hv := HSBV.out.2 h h36'
            rw [show sb.getD h false = sb[h]'(by rw [HSBV.out.1]; omega) by simp [List.getD, show h < sb.length by rw [HSBV.out.1]; omega]] at hv
            have hhi : (h : Int) < 37 := by omega
            by_cases hm : (h : Int) ∈ grL l
            · rw [hv.2 hm] at hc
              have hT2 : Hid (∀ q, q < h + 1 → (q : Int) ∈ grL l) := fun q hq => by
                by_cases e : q = h
                · subst e; exact hm
                · exact hT.out q (by omega)
              have hle2 := IsMex.le hT2.out
              clear hm hv
              go_wp2
              go_round
              case rel => exact ⟨h + 1, by omega, by go_num, hT2⟩
              case measure => simp [intOf]; omega
            · have hvf : sb[h]'(by rw [HSBV.out.1]; omega) = false := by
                cases hq : sb[h]'(by rw [HSBV.out.1]; omega)
                · rfl
                · exact absurd (hv.1 hq) hm
              rw [hvf] at hc
              have HGR : Hid (gr l = h) := gr_is HOK.out ⟨hm, hT.out⟩
              obtain ⟨kl, hkl⟩ : ∃ kl : Nat, keyI l = kl := ⟨(keyI l).toNat, by have := (keyI_in HOK.out).1; omega⟩
              have hkl6 : kl < 117649 := by have := (keyI_in HOK.out).2; omega
              have hkli : (kl : Int) < 117649 := by omega
              have HKC : Hid (∀ (wx : World), Rd wx 1 a l.length (intCells l) → Calls Try.prog 95 #[.slice a l.length cc] wx fun e w' => e = .returned (.int .i64 (kl : Int)) ∧ wx = w') := fun wx hr => by
                have q := cmKey_any a l.length cc l wx hr HOK.out
                rw [hkl] at q
                exact q
              have how2 := HOW.out
              have htc := how2.cellAt kl (by omega)
              have htl2 : kl < tbl.length := by rw [htl.out]; exact hkl6
              rw [show (intCells tbl)[kl]? = some (.int .i64 tbl[kl]) by simp [intCells, htl2]] at htc
              have htf := how2.frozenAt kl
              have st := how2.stored kl (.int .i64 ((h : Int) + 1))
              rw [set_intCells] at st
              have HP := HPUT.out
              rw [HGR.out, hkl] at HP
              have HP2 : Hid (TabC (tbl.set kl ((h : Int) + 1)) Ls (p + 1)) := by simpa [Hid] using HP
              have HTL2 : Hid ((tbl.set kl ((h : Int) + 1)).length = 117649) := by simp only [Hid, List.length_set]; exact htl.out
              have ssl := HSL.out.kept st.2 (fun g hg => by cases hg; exact .inl sT)
              have blq := HBB.out.setCell (p := ⟨w.heap.size, kl, none⟩) (Nat.le_refl _) (.int .i64 ((h : Int) + 1))
              have P := Lib.hid (show (wr.setCell ⟨w.heap.size, kl, none⟩ (.int .i64 ((h : Int) + 1))).ownsRow w.heap.size 3 1 (.slice (some ⟨w.heap.size, 0, none⟩) 117649 117649) 117649 (intCells (tbl.set kl ((h : Int) + 1))) ∧ Hid (TabC (tbl.set kl ((h : Int) + 1)) Ls (p + 1)) ∧ OwnSS (wr.setCell ⟨w.heap.size, kl, none⟩ (.int .i64 ((h : Int) + 1))) wt.heap.size (.slice (some ⟨b, 0, none⟩) m c1) m (lsR Ls) ∧ Below w.heap.size w (wr.setCell ⟨w.heap.size, kl, none⟩ (.int .i64 ((h : Int) + 1))) ∧ wt.heap.size ≤ (wr.setCell ⟨w.heap.size, kl, none⟩ (.int .i64 ((h : Int) + 1))).heap.size from ⟨st.1, HP2, ssl, blq, by simp; omega⟩)
              generalize tbl[kl] = ov at *
              clear hm hv hvf hkl how2 htl2 st HP HP2 ssl blq hos HPUT HBF
              go_wp2_with fail
              refine (HKC.out _ (Rd.of_own HRL.out)).mono ?_; rintro e wx ⟨rfl, rfl⟩
              go_wp2
              go_roundw
              case rel => exact ⟨p + 1, _, by omega, by go_num, HTL2, P.out⟩
              case measure => simp [intOf]; omega
    · have hpm : p = m := by omega
      have HTB : Hid (TabC tbl Ls Ls.length) := by rw [HLL.out, ← hpm]; exact htab.out
      clear hpm
      go_wp2
      go_ret
      exact ⟨w.heap.size, tbl, rfl, hown, by rw [HLS.out]; exact HTB.out, hB⟩

end Go.Proofs.Ytghlgmbekgfmnaa
