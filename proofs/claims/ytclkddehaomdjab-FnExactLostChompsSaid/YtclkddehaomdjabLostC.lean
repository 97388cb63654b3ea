/-
  Words and contract: lost chomps within a bar, of the program (lostChomps).
-/
import Derived.Test.YtclkddehaomdjabHeapC
import Derived.Test.YtclkddehaomdjabRankC
namespace Go.Proofs.Ytclkddehaomdjab
open Go.RowKit
set_option linter.unusedVariables false

/-- a lost chomp -/
def lsB (l : List Int) : Bool := !decide (0 < grI l)
def lsK (H W k : Nat) : List (List Int) := ((chs H W []).take k).filter lsB
/-- all lost ones -/
def lostL (H W : Nat) : List (List Int) := (chs H W []).filter lsB
theorem lsK_succ {H W k : Nat} (h : k < (chs H W []).length) : lsK H W (k + 1) = lsK H W k ++ (if lsB (chs H W [])[k] then [(chs H W [])[k]] else []) := by
  unfold lsK
  rw [List.take_succ_eq_append_getElem h, List.filter_append]
  congr 1
  by_cases e : lsB (chs H W [])[k]
  · rw [if_pos e]; simp [e]
  · rw [if_neg e]; simp [e]
theorem lsK_all {H W k : Nat} (h : (chs H W []).length ≤ k) : lsK H W k = lostL H W := by unfold lsK lostL; rw [List.take_of_length_le h]

set_option maxRecDepth 100000 in
set_option maxHeartbeats 8000000 in
theorem lostChomps_any (W H : Nat) (w : World) (hW : W ≤ 6) (hH : H ≤ 6) :
    Calls Try.prog 40 #[.int .i64 (W : Int), .int .i64 (H : Int)] w fun e w' => ∃ A' n' c', e = .returned (.slice A' n' c') ∧ (lostL H W).length = n' ∧ n' ≤ 923 ∧ w'.ownsRow w.heap.size 51 6 (.slice A' n' c') n' (chCells (lostL H W)) ∧ Below w.heap.size w w' := by
  obtain ⟨i0, hi, hz0, hz1, hz2⟩ := info_parts chomp_info
  have HA := Lib.hid (fun wx => chompsWithin_any W H wx hW hH)
  go_enter Try.func40, Try.ntmps40
  go_wp2_with fail
  refine (heapFinder_any _).mono ?_; rintro e w1 ⟨km, q1, q2, q3, rfl, hm1, hb1, hkm⟩
  have HM1 := Lib.hid hm1
  have HB1 := Lib.hid hb1
  have s1 := hb1.size
  have hkl : km < w1.heap.size := hm1.map.lt
  have hQ1 : q1 < w1.heap.size ∧ q2 < w1.heap.size ∧ q3 < w1.heap.size := ⟨World.block_lt_of_cell? w1 _ hm1.c1, World.block_lt_of_cell? w1 _ hm1.c2, World.block_lt_of_cell? w1 _ hm1.c3⟩
  clear hm1 hb1
  go_wp2_with fail
  refine (HA.out _).mono ?_; rintro e w2 ⟨A0, m, c0, rfl, hL, hown0, hb2⟩
  have HM2 := Lib.hid (HM1.out.below hb2 (Nat.le_refl _))
  have HB2 := Lib.hid (HB1.out.trans (hb2.mono s1))
  have HOB := Lib.hid hown0
  have s2 := hb2.size
  have hm923 : m ≤ 923 := by rw [← hL, length_chs]; exact cntC_le hH hW
  have HLL := Lib.hid hL
  clear hL hown0 hb2 HM1 HB1
  go_wp2
  go_loopw [5, 14] (fun v i wr => ∃ (k j : Nat) (A' : Option Addr) (c' : Nat), k ≤ m ∧ j ≤ k ∧ i = .int .i64 k ∧ v = .slice A' j c' ∧ Hid ((lsK H W k).length = j) ∧ wr.ownsRow w2.heap.size 51 6 (.slice A' j c') j (chCells (lsK H W k)) ∧ (∃ S', HM (fun i => i = km) wr km q1 q2 q3 heapV grI S') ∧ Chg (fun i => i = km) w2 wr) (fun _ i _ => m - (intOf i).toNat)
  case atStart => exact ⟨0, 0, none, 0, Nat.zero_le _, Nat.le_refl _, rfl, rfl, rfl, World.ownsRow_nil _ _ _ _, ⟨[], HM2.out⟩, Chg.refl _ _⟩
  case round =>
    obtain ⟨k, j, A', c', hk, hjk, rfl, rfl, hj, hown, ⟨S', hm⟩, hch⟩ := hrel
    have sw := hch.size
    have hob : wr.ownsRow w1.heap.size 51 6 (.slice A0 m c0) m (chCells (chs H W [])) := hch.own HOB.out (fun q hq e => by have := (HOB.out.lt q hq).1; omega)
    by_cases hlt : k < m
    · have hlen : k < (chs H W []).length := by rw [HLL.out]; exact hlt
      obtain ⟨b, rfl, hb1', hbl⟩ := own_at hob (by omega)
      have a0 := (hob.cellAt (k * 6) (by omega)).trans (chCells_at _ k 0 hlen (by omega))
      have a1 := (hob.cellAt (k * 6 + 1) (by omega)).trans (chCells_at _ k 1 hlen (by omega))
      have a2 := (hob.cellAt (k * 6 + 2) (by omega)).trans (chCells_at _ k 2 hlen (by omega))
      have a3 := (hob.cellAt (k * 6 + 3) (by omega)).trans (chCells_at _ k 3 hlen (by omega))
      have a4 := (hob.cellAt (k * 6 + 4) (by omega)).trans (chCells_at _ k 4 hlen (by omega))
      have a5 := (hob.cellAt (k * 6 + 5) (by omega)).trans (chCells_at _ k 5 hlen (by omega))
      have HSN : Hid (lsK H W (k + 1) = lsK H W k ++ (if lsB ((chs H W []).getD k []) then [(chs H W []).getD k []] else [])) := by
        have h := lsK_succ hlen
        rw [show (chs H W []).getD k [] = (chs H W [])[k] by simp [List.getD, hlen]]
        exact h
      have HOK : Hid (ChOK ((chs H W []).getD k [])) := by
        rw [show (chs H W []).getD k [] = (chs H W [])[k] by simp [List.getD, hlen]]
        exact ((mem_all hH hW).1 (List.getElem_mem hlen)).1
      generalize (chs H W []).getD k [] = q at *
      obtain ⟨f, hf⟩ : ∃ f : Nat → Int, f = fl q := ⟨_, rfl⟩
      have HF := Lib.hid hf
      rw [show q.getD 0 0 = f 0 by rw [hf]] at a0
      rw [show q.getD 1 0 = f 1 by rw [hf]] at a1
      rw [show q.getD 2 0 = f 2 by rw [hf]] at a2
      rw [show q.getD 3 0 = f 3 by rw [hf]] at a3
      rw [show q.getD 4 0 = f 4 by rw [hf]] at a4
      rw [show q.getD 5 0 = f 5 by rw [hf]] at a5
      have HCQ : Hid (chCells [q] = cellsF f) := by simp only [Hid]; rw [chCells_one, hf]
      have hba : Below wr.heap.size wr (wr.alloc (.cells #[.int .i64 (f 0), .int .i64 (f 1), .int .i64 (f 2), .int .i64 (f 3), .int .i64 (f 4), .int .i64 (f 5)] 51)) := (Below.refl _ _).alloc (Nat.le_refl _) _
      have hbx := BoxF.new wr f
      obtain ⟨c0', c1', c2', c3', c4', c5'⟩ := hbx.cells
      have HNU := Lib.hid (isWon_any (fun i => i = km) km q1 q2 q3 q f S' _ HOK.out hf (hm.below hba (Nat.le_refl _)))
      have HBA := Lib.hid hba
      have HBX := Lib.hid hbx
      have HOW := Lib.hid hown
      have HCH := Lib.hid hch
      have hlb : lsB q = !decide (0 < grI q) := rfl
      have HLB := Lib.hid hlb
      clear hba hbx hown hob hm hch hf hlen hlb
      generalize decide (0 < grI q) = wn at *
      go_wp2_with fail
      refine (HNU.out).mono ?_; rintro e w4 ⟨rfl, ⟨S4, hm4⟩, hch4⟩
      have s4 := hch4.size
      have s3 := HBA.out.size
      have own4 := hch4.own (own_later HOW.out HBA.out (Nat.le_refl _)) (fun q hq e => by have := (HOW.out.lt q hq).1; omega)
      have hbx4 : BoxF w4 wr.heap.size f := hch4.own HBX.out (fun q hq e => by cases hq; have e2 : wr.heap.size = km := e; omega)
      have hc4 := (HCH.out.trans (Chg.of_below HBA.out (Nat.le_refl _))).trans hch4
      clear c0' c1' c2' c3' c4' c5' a0 a1 a2 a3 a4 a5
      cases wn with
      | true =>
        have HGN : Hid (lsK H W (k + 1) = lsK H W k) := by
          have h := HSN.out
          rw [HLB.out] at h
          simpa [Hid] using h
        have P := Lib.hid (show Hid ((lsK H W (k + 1)).length = j) ∧ w4.ownsRow w2.heap.size 51 6 (.slice A' j c') j (chCells (lsK H W (k + 1))) ∧ (∃ S', HM (fun i => i = km) w4 km q1 q2 q3 heapV grI S') ∧ Chg (fun i => i = km) w2 w4 from ⟨by simp only [Hid]; rw [HGN.out]; exact hj.out, by rw [HGN.out]; exact own4, ⟨S4, hm4⟩, hc4⟩)
        clear own4 hbx4 hc4 hm4 hch4 HNU
        go_wp2
        go_roundw
        case rel => exact ⟨k + 1, j, A', c', by omega, by omega, by go_num, rfl, P.out⟩
        case measure => simp [intOf]; omega
      | false =>
        have HGN : Hid (lsK H W (k + 1) = lsK H W k ++ [q]) := by
          have h := HSN.out
          rw [HLB.out] at h
          simpa [Hid] using h
        obtain ⟨y0, y1, y2, y3, y4, y5⟩ := hbx4.cells
        have hc3 : j + 1 ≤ maxLen := by simp only [maxLen]; omega
        have HO4 := Lib.hid own4
        have HM4 := Lib.hid hm4
        have HC4 := Lib.hid hc4
        have HOA := Lib.hid (own_alloc own4 (.cells #[.int .i64 (f 0), .int .i64 (f 1), .int .i64 (f 2), .int .i64 (f 3), .int .i64 (f 4), .int .i64 (f 5)] 51))
        have HNW := Lib.hid (new6 w4 51 f)
        clear own4 hbx4 hc4 hm4 hch4 HNU
        go_wp2_with (at_builtin; refine wpList_append_own _ rfl (.tmp 22) (.tmp 24) 45 rfl w2.heap.size 51 i0 (arrF fun _ => 0) 6 48 Try.underlying45 hi hz0 hz1 hz2 rfl (by decide) _ _ _ rfl HOA.out ⟨w4.heap.size, 0, none⟩ 1 1 (cellsF f) rfl rfl HNW.out (six_oneCell f) hc3 (by omega) (by simp; omega) ?_)
        intro v' w5 hown' hgrow _
        obtain ⟨A2, c2', rfl⟩ := own_slice hown'
        have hba4 : Below w4.heap.size w4 (w4.alloc (.cells #[.int .i64 (f 0), .int .i64 (f 1), .int .i64 (f 2), .int .i64 (f 3), .int .i64 (f 4), .int .i64 (f 5)] 51)) := (Below.refl _ _).alloc (Nat.le_refl _) _
        have hrow : ∀ q, (Value.slice A' j c').ownBlock = some q → w2.heap.size ≤ q := fun q hq => (HO4.out.lt q hq).1
        have hm5 := (HM4.out.below hba4 (Nat.le_refl _)).grown hgrow (fun q hq => by have := hrow q hq; omega)
        have hch5 := (HC4.out.trans (Chg.of_below hba4 (Nat.le_refl _))).of_row hgrow hrow
        have P := Lib.hid (show Hid ((lsK H W (k + 1)).length = j + 1) ∧ w5.ownsRow w2.heap.size 51 6 (.slice A2 (j + 1) c2') (j + 1) (chCells (lsK H W (k + 1))) ∧ (∃ S', HM (fun i => i = km) w5 km q1 q2 q3 heapV grI S') ∧ Chg (fun i => i = km) w2 w5 from ⟨by simp only [Hid]; rw [HGN.out, List.length_append, hj.out]; rfl, by rw [HGN.out, chCells_append, HCQ.out]; exact hown', ⟨S4, hm5⟩, hch5⟩)
        clear hown' hgrow hba4 hrow hm5 hch5 HO4 HM4 HC4 HOA HNW hc3 y0 y1 y2 y3 y4 y5
        go_wp2
        go_roundw
        case rel => exact ⟨k + 1, j + 1, A2, c2', by omega, by omega, by go_num, rfl, P.out⟩
        case measure => simp [intOf]; omega
    · have hkm2 : k = m := by omega
      have htk : lsK H W k = lostL H W := lsK_all (by rw [HLL.out]; omega)
      have hB : Below w.heap.size w wr := Chg.below hch HB2.out (fun i hi => by have e2 : i = km := hi; omega)
      have P := Lib.hid (show Hid ((lostL H W).length = j) ∧ wr.ownsRow w.heap.size 51 6 (.slice A' j c') j (chCells (lostL H W)) ∧ Below w.heap.size w wr from ⟨by rw [← htk]; exact hj, by rw [← htk]; exact own_base hown (by omega), hB⟩)
      clear htk hown hob hm hch hB
      go_wp2
      go_ret
      exact ⟨A', j, c', rfl, P.out.1.out, by omega, P.out.2.1, P.out.2.2⟩

end Go.Proofs.Ytclkddehaomdjab
