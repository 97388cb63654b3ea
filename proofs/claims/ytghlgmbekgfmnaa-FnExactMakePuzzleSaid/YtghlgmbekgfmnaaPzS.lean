/-
  Contracts: solutionsOf of the program. Conditions: none.
-/
import Derived.Test.YtghlgmbekgfmnaaPzF
namespace Go.Proofs.Ytghlgmbekgfmnaa
open Go.RowKit Go.Maps
set_option linter.unusedVariables false
set_option linter.unusedSimpArgs false

set_option maxRecDepth 100000 in
set_option maxHeartbeats 8000000 in
theorem solutionsOf_any (K : Nat → Prop) (N h0 : Nat) (A : Option Addr) (n c : Nat) (S : List Clu) (w : World) (hS : ∀ q ∈ S, cluB q = true) (hn : n ≤ 1000) (hr : ∀ w', Chg K w w' → Rd w' 3 A n (boxCells S)) (hm : TM K N w h0) :
    Calls Try.prog 74 #[.slice A n c, tellF h0] w fun e w' => ∃ A' n' c', e = .returned (.slice A' n' c') ∧ (solL S).length = n' ∧ w'.ownsRow w.heap.size 73 6 (.slice A' n' c') n' (chCells (solL S)) ∧ TM K N w' h0 ∧ Chg K w w' := by
  obtain ⟨i0, hi, hz0, hz1, hz2⟩ := info_parts chomp_info
  have HA := Lib.hid (fun wx => chompsWithin_any 5 4 wx (by decide) (by decide))
  have HR := Lib.hid hr
  have HS := Lib.hid hS
  have HM0 := Lib.hid hm
  have HKN := Lib.hid hm.kn
  have hNw := hm.size
  clear hr hS hm
  go_enter Try.func74, Try.ntmps74
  go_wp2_with fail
  refine (HA.out _).mono ?_; rintro e w2 ⟨A0, m, c0, rfl, hL, hown0, hb2⟩
  have HM2 := Lib.hid (HM0.out.below hb2 (Nat.le_refl _))
  have HB2 := Lib.hid hb2
  have HOB := Lib.hid hown0
  have s2 := hb2.size
  have hm125 : m = 125 := by rw [← hL]; exact chs45_len
  have HLL := Lib.hid hL
  have HC2 := Lib.hid (Chg.of_below (K := K) hb2 (Nat.le_refl _))
  clear hL hown0 hb2 HM0
  go_wp2
  go_loopw [5, 10] (fun v i wr => ∃ (k j : Nat) (A' : Option Addr) (c' : Nat), k ≤ m ∧ j ≤ k ∧ i = .int .i64 k ∧ v = .slice A' j c' ∧ Hid ((solK S k).length = j) ∧ wr.ownsRow w2.heap.size 73 6 (.slice A' j c') j (chCells (solK S k)) ∧ TM K N wr h0 ∧ Chg K w2 wr) (fun _ i _ => m - (intOf i).toNat)
  case atStart => exact ⟨0, 0, none, 0, Nat.zero_le _, Nat.le_refl _, rfl, rfl, rfl, World.ownsRow_nil _ _ _ _, HM2.out, Chg.refl _ _⟩
  case round =>
    obtain ⟨k, j, A', c', hk, hjk, rfl, rfl, hj, hown, hm, hch⟩ := hrel
    have sw := hch.size
    have hob : wr.ownsRow w.heap.size 73 6 (.slice A0 m c0) m (chCells (chs 4 5 [])) := hch.own HOB.out (fun q hq e => by have e2 := (HOB.out.lt q hq).1; have e3 := HKN.out q e; omega)
    by_cases hlt : k < m
    · have hlen : k < (chs 4 5 []).length := by rw [HLL.out]; exact hlt
      obtain ⟨b, rfl, hb1', hbl⟩ := own_at hob (by omega)
      have a0 := (hob.cellAt (k * 6) (by omega)).trans (chCells_at _ k 0 hlen (by omega))
      have a1 := (hob.cellAt (k * 6 + 1) (by omega)).trans (chCells_at _ k 1 hlen (by omega))
      have a2 := (hob.cellAt (k * 6 + 2) (by omega)).trans (chCells_at _ k 2 hlen (by omega))
      have a3 := (hob.cellAt (k * 6 + 3) (by omega)).trans (chCells_at _ k 3 hlen (by omega))
      have a4 := (hob.cellAt (k * 6 + 4) (by omega)).trans (chCells_at _ k 4 hlen (by omega))
      have a5 := (hob.cellAt (k * 6 + 5) (by omega)).trans (chCells_at _ k 5 hlen (by omega))
      have HSN : Hid (solK S (k + 1) = solK S k ++ (if fits S ((chs 4 5 []).getD k []) then [(chs 4 5 []).getD k []] else [])) := by
        have h := solK_succ (S := S) hlen
        rw [show (chs 4 5 []).getD k [] = (chs 4 5 [])[k] by simp [List.getD, hlen]]
        exact h
      have HOK : Hid (ChOK ((chs 4 5 []).getD k [])) := by
        rw [show (chs 4 5 []).getD k [] = (chs 4 5 [])[k] by simp [List.getD, hlen]]
        exact ((mem_all (H := 4) (W := 5) (by decide) (by decide)).1 (List.getElem_mem hlen)).1
      generalize (chs 4 5 []).getD k [] = q at *
      obtain ⟨f, hf⟩ : ∃ f : Nat → Int, f = fl q := ⟨_, rfl⟩
      have HF := Lib.hid hf
      rw [show q.getD 0 0 = f 0 by rw [hf]] at a0
      rw [show q.getD 1 0 = f 1 by rw [hf]] at a1
      rw [show q.getD 2 0 = f 2 by rw [hf]] at a2
      rw [show q.getD 3 0 = f 3 by rw [hf]] at a3
      rw [show q.getD 4 0 = f 4 by rw [hf]] at a4
      rw [show q.getD 5 0 = f 5 by rw [hf]] at a5
      have HCQ : Hid (chCells [q] = cellsF f) := by simp only [Hid]; rw [chCells_one, hf]
      have hba : Below wr.heap.size wr (wr.alloc (.cells #[.int .i64 (f 0), .int .i64 (f 1), .int .i64 (f 2), .int .i64 (f 3), .int .i64 (f 4), .int .i64 (f 5)] 73)) := (Below.refl _ _).alloc (Nat.le_refl _) _
      have hbx := BoxF.new wr f
      obtain ⟨c0', c1', c2', c3', c4', c5'⟩ := hbx.cells
      have hc3 := (HC2.out.trans hch).trans (Chg.of_below (K := K) hba (Nat.le_refl _))
      have HNU := Lib.hid (fitsAll_any K N h0 A n c S q f _ HS.out hn (fun w' h => HR.out w' (hc3.trans h)) HOK.out hf (hm.below hba (Nat.le_refl _)))
      have HBA := Lib.hid hba
      have HBX := Lib.hid hbx
      have HOW := Lib.hid hown
      have HCH := Lib.hid hch
      clear hba hbx hown hob hm hch hf hlen hc3
      generalize fits S q = wn at *
      go_wp2_with fail
      refine (HNU.out).mono ?_; rintro e w4 ⟨rfl, hm4, hch4⟩
      have s4 := hch4.size
      have s3 := HBA.out.size
      have own4 := hch4.own (own_later HOW.out HBA.out (Nat.le_refl _)) (fun q hq e => by have e2 := (HOW.out.lt q hq).1; have e3 := HKN.out q e; omega)
      have hbx4 : BoxF w4 wr.heap.size f := hch4.own HBX.out (fun q hq e => by cases hq; have e3 := HKN.out _ e; simp at e3; omega)
      have hc4 := (HCH.out.trans (Chg.of_below HBA.out (Nat.le_refl _))).trans hch4
      clear c0' c1' c2' c3' c4' c5' a0 a1 a2 a3 a4 a5
      cases wn with
      | false =>
        have HGN : Hid (solK S (k + 1) = solK S k) := by
          have h := HSN.out
          simpa [Hid] using h
        have P := Lib.hid (show Hid ((solK S (k + 1)).length = j) ∧ w4.ownsRow w2.heap.size 73 6 (.slice A' j c') j (chCells (solK S (k + 1))) ∧ TM K N w4 h0 ∧ Chg K w2 w4 from ⟨by simp only [Hid]; rw [HGN.out]; exact hj.out, by rw [HGN.out]; exact own4, hm4, hc4⟩)
        clear own4 hbx4 hc4 hm4 hch4 HNU
        go_wp2
        go_roundw
        case rel => exact ⟨k + 1, j, A', c', by omega, by omega, by go_num, rfl, P.out⟩
        case measure => simp [intOf]; omega
      | true =>
        have HGN : Hid (solK S (k + 1) = solK S k ++ [q]) := by
          have h := HSN.out
          simpa [Hid] using h
        obtain ⟨y0, y1, y2, y3, y4, y5⟩ := hbx4.cells
        have hc3 : j + 1 ≤ maxLen := by simp only [maxLen]; omega
        have HO4 := Lib.hid own4
        have HM4 := Lib.hid hm4
        have HC4 := Lib.hid hc4
        have HOA := Lib.hid (own_alloc own4 (.cells #[.int .i64 (f 0), .int .i64 (f 1), .int .i64 (f 2), .int .i64 (f 3), .int .i64 (f 4), .int .i64 (f 5)] 73))
        have HNW := Lib.hid (new6 w4 73 f)
        clear own4 hbx4 hc4 hm4 hch4 HNU
        go_wp2_with (at_builtin; refine wpList_append_own _ rfl (.tmp 18) (.tmp 20) 80 rfl w2.heap.size 73 i0 (arrF fun _ => 0) 6 48 Try.underlying80 hi hz0 hz1 hz2 rfl (by decide) _ _ _ rfl HOA.out ⟨w4.heap.size, 0, none⟩ 1 1 (cellsF f) rfl rfl HNW.out (six_oneCell f) hc3 (by omega) (by simp; omega) ?_)
        intro v' w5 hown' hgrow _
        obtain ⟨A2, c2', rfl⟩ := own_slice hown'
        have hba4 : Below w4.heap.size w4 (w4.alloc (.cells #[.int .i64 (f 0), .int .i64 (f 1), .int .i64 (f 2), .int .i64 (f 3), .int .i64 (f 4), .int .i64 (f 5)] 73)) := (Below.refl _ _).alloc (Nat.le_refl _) _
        have hrow : ∀ q, (Value.slice A' j c').ownBlock = some q → w2.heap.size ≤ q := fun q hq => (HO4.out.lt q hq).1
        have hm5 := (HM4.out.below hba4 (Nat.le_refl _)).grown hgrow (fun q hq => by have := hrow q hq; omega)
        have hch5 := (HC4.out.trans (Chg.of_below hba4 (Nat.le_refl _))).of_row hgrow hrow
        have P := Lib.hid (show Hid ((solK S (k + 1)).length = j + 1) ∧ w5.ownsRow w2.heap.size 73 6 (.slice A2 (j + 1) c2') (j + 1) (chCells (solK S (k + 1))) ∧ TM K N w5 h0 ∧ Chg K w2 w5 from ⟨by simp only [Hid]; rw [HGN.out, List.length_append, hj.out]; rfl, by rw [HGN.out, chCells_append, HCQ.out]; exact hown', hm5, hch5⟩)
        clear hown' hgrow hba4 hrow hm5 hch5 HO4 HM4 HC4 HOA HNW hc3 y0 y1 y2 y3 y4 y5
        go_wp2
        go_roundw
        case rel => exact ⟨k + 1, j + 1, A2, c2', by omega, by omega, by go_num, rfl, P.out⟩
        case measure => simp [intOf]; omega
    · have hkm2 : k = m := by omega
      have htk : solK S k = solL S := solK_all (by rw [HLL.out]; omega)
      have P := Lib.hid (show Hid ((solL S).length = j) ∧ wr.ownsRow w.heap.size 73 6 (.slice A' j c') j (chCells (solL S)) ∧ TM K N wr h0 ∧ Chg K w wr from ⟨by rw [← htk]; exact hj, by rw [← htk]; exact own_base hown (by omega), hm, HC2.out.trans hch⟩)
      clear htk hown hob hm hch
      go_wp2
      go_ret
      exact ⟨A', j, c', rfl, P.out.1.out, P.out.2.1, P.out.2.2.1, P.out.2.2.2⟩

end Go.Proofs.Ytghlgmbekgfmnaa
