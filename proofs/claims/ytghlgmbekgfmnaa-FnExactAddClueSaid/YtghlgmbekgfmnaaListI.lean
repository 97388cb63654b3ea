/-
  Contracts: all chomps that fit into a bar, of the program (addChomps, chompsWithin).
-/
import Derived.Test.YtghlgmbekgfmnaaListW
import Derived.Test.YtghlgmbekgfmnaaMoves
namespace Go.Proofs.Ytghlgmbekgfmnaa
open Go.RowKit
set_option linter.unusedVariables false

def chCells (L : List (List Int)) : List Value := L.flatMap fun l => cellsF (fun j => l.getD j 0)
theorem chCells_append (L M : List (List Int)) : chCells (L ++ M) = chCells L ++ chCells M := by simp [chCells]
theorem chCells_one (l : List Int) : chCells [l] = cellsF (fun j => l.getD j 0) := by simp [chCells]
theorem six_oneCell (f : Nat → Int) : ∀ u ∈ cellsF f, u.oneCell' = true := by
  intro u hu; simp at hu; rcases hu with rfl | rfl | rfl | rfl | rfl | rfl <;> rfl
theorem new6 (w : World) (e : TypeId) (f : Nat → Int) : ∀ (j : Nat) (u : Value), (cellsF f)[j]? = some u → (w.alloc (.cells #[.int .i64 (f 0), .int .i64 (f 1), .int .i64 (f 2), .int .i64 (f 3), .int .i64 (f 4), .int .i64 (f 5)] e)).cell? ((⟨w.heap.size, 0, none⟩ : Addr).add j) = some u := by
  intro j u hj
  match j, hj with
  | 0, hj => simp at hj; subst hj; simp [Addr.add, go_sem]
  | 1, hj => simp at hj; subst hj; simp [Addr.add, go_sem]
  | 2, hj => simp at hj; subst hj; simp [Addr.add, go_sem]
  | 3, hj => simp at hj; subst hj; simp [Addr.add, go_sem]
  | 4, hj => simp at hj; subst hj; simp [Addr.add, go_sem]
  | 5, hj => simp at hj; subst hj; simp [Addr.add, go_sem]
theorem chomp_info : (Try.prog.info? 73).map (fun i => (i.zero, i.size, i.bytes)) = some (some (arrF fun _ => 0), 6, 48) := by kernel_rfl
theorem snoc_getD (b : List Int) (v : Int) (j : Nat) : (b ++ [v]).getD j 0 = if j = b.length then v else b.getD j 0 := by
  by_cases h : j < b.length
  · rw [if_neg (by omega)]
    simp [List.getD, List.getElem?_append_left h]
  · by_cases e : j = b.length
    · subst e; simp
    · rw [if_neg e, getD_past (by simp; omega), getD_past (by omega)]

set_option maxRecDepth 100000 in
set_option maxHeartbeats 4000000 in
theorem addChomps_any (H : Nat) (hH : H ≤ 6) : ∀ (h y wd m c0 B : Nat) (A : Option Addr) (b : List Int) (f : Nat → Int) (L : List (List Int)) (w : World), y + h = H → b.length = y → (∀ j, j < 6 → f j = b.getD j 0) → wd ≤ 6 → B ≤ w.heap.size → L.length = m → m + cntC h wd ≤ 100000 →
    w.ownsRow B 73 6 (.slice A m c0) m (chCells L) →
    Calls Try.prog 118 #[.slice A m c0, arrF f, .int .i64 (y : Int), .int .i64 (wd : Int), .int .i64 (H : Int)] w fun e w' => ∃ A' m' c', e = .returned (.slice A' m' c') ∧ (L ++ chs h wd b).length = m' ∧ w'.ownsRow B 73 6 (.slice A' m' c') m' (chCells (L ++ chs h wd b)) ∧ GrowR w (.slice A m c0) w' (.slice A' m' c') := by
  intro h
  induction h with
  | zero =>
    intro y wd m c0 B A b f L w hy hb hf hwd hB hL hm hown
    have heq : ((y : Int) == (H : Int)) = true := by simp; omega
    have HL : Hid (L ++ chs 0 wd b = L) := by simp [Hid, chs]
    rw [HL.out]
    go_enter Try.func118, Try.ntmps118
    go_wp2
    go_ret
    exact ⟨A, m, c0, rfl, hL, own_alloc hown _, (GrowR.refl _ _).alloc _⟩
  | succ h ih =>
    intro y wd m c0 B A b f L w hy hb hf hwd hB hL hm hown
    obtain ⟨i0, hi, hz0, hz1, hz2⟩ := info_parts chomp_info
    have heq : ((y : Int) == (H : Int)) = false := by simp; omega
    have y6 : y < 6 := by omega
    have IH := Lib.hid ih
    have HFB := Lib.hid hf
    have HBL := Lib.hid hb
    have b0 := Lib.hid (BoxF.new w f)
    have OW := Lib.hid (own_alloc hown (.cells #[.int .i64 (f 0), .int .i64 (f 1), .int .i64 (f 2), .int .i64 (f 3), .int .i64 (f 4), .int .i64 (f 5)] 73))
    have GR := Lib.hid ((GrowR.refl w (.slice A m c0)).alloc (.cells #[.int .i64 (f 0), .int .i64 (f 1), .int .i64 (f 2), .int .i64 (f 3), .int .i64 (f 4), .int .i64 (f 5)] 73))
    have LT := Lib.hid (fun g hg => (hown.lt g hg).2)
    clear ih hf hb hown
    go_enter Try.func118, Try.ntmps118
    go_wp2
    go_loopw [0, 11] (fun v i wr => ∃ (k m' c' : Nat) (A' : Option Addr) (g : Nat → Int), k ≤ wd ∧ i = .int .i64 ((k : Int) + 1) ∧ v = .slice A' m' c' ∧ Hid ((L ++ chsK h k b).length = m') ∧ wr.ownsRow B 73 6 (.slice A' m' c') m' (chCells (L ++ chsK h k b)) ∧ BoxF wr w.heap.size g ∧ Hid (∀ j, j < 6 → j ≠ y → g j = b.getD j 0) ∧ GrowR w (.slice A m c0) wr (.slice A' m' c') ∧ Hid (∀ q, (Value.slice A' m' c').ownBlock = some q → q ≠ w.heap.size)) (fun _ i _ => wd + 1 - (intOf i).toNat)
    case atStart => exact ⟨0, m, c0, A, f, Nat.zero_le _, rfl, rfl, by simpa [Hid, chsK_zero] using hL, by simpa [chsK_zero] using OW.out, b0.out, fun j hj _ => HFB.out j hj, GR.out, fun q hq => by have := LT.out q hq; omega⟩
    case round =>
      clear b0 OW GR LT
      obtain ⟨k, m', c', A', g, hk, rfl, rfl, hML, hown, hbx, hg, hGR, hne⟩ := hrel
      by_cases hlt : k < wd
      · have hle : (k : Int) + 1 ≤ (wd : Int) := by omega
        have st := hbx.set y6 ((k : Int) + 1)
        obtain ⟨f', hf'⟩ : ∃ f' : Nat → Int, f' = fun j => (b ++ [((k : Int) + 1)]).getD j 0 := ⟨_, rfl⟩
        have hbx2 : BoxF (wr.setCell ⟨w.heap.size, y, none⟩ (.int .i64 ((k : Int) + 1))) w.heap.size f' := st.1.congr fun j hj => by
          simp only [hf', snoc_getD, HBL.out]
          by_cases e : j = y
          · rw [if_pos e, if_pos e]
          · rw [if_neg e, if_neg e]; exact hg.out j hj e
        have own2 := hown.kept st.2 (by
          rcases hv : (Value.slice A' m' c').ownBlock with _ | q
          · exact .inl rfl
          · exact .inr (fun e => hne.out q hv (by simpa using e)))
        have cy := hbx.cell y6
        have fy := hbx.frozen y
        have HSN : Hid (L ++ chsK h (k + 1) b = (L ++ chsK h k b ++ [b ++ [((k : Int) + 1)]]) ++ chs h (k + 1) (b ++ [((k : Int) + 1)])) := by simp [Hid, chsK_succ]
        have hcnt : m' + (1 + cntC h (k + 1)) ≤ m + cntC (h + 1) wd := by
          have e1 : (L ++ chsK h (k + 1) b).length ≤ m + cntC (h + 1) wd := by
            rw [List.length_append, hL, ← length_chs (h + 1) wd b, chs_succ]
            have := length_chsK_mono (h := h) b (show k + 1 ≤ wd by omega)
            omega
          rw [HSN.out, List.length_append, List.length_append, hML.out, length_chs] at e1
          simp only [List.length_cons, List.length_nil] at e1
          omega
        have hGR2 := hGR.set ⟨w.heap.size, y, none⟩ (.int .i64 ((k : Int) + 1)) (Nat.le_refl _)
        have HCL : Hid (chCells (L ++ chsK h k b ++ [b ++ [((k : Int) + 1)]]) = chCells (L ++ chsK h k b) ++ cellsF f') := by simp only [Hid]; rw [chCells_append _ [_], chCells_one, hf']
        have HF' : Hid (∀ j, j < 6 → f' j = (b ++ [((k : Int) + 1)]).getD j 0) := fun j _ => by rw [hf']
        clear hf' st hown hbx hGR
        obtain ⟨q0, q1, q2, q3, q4, q5⟩ := hbx2.cells
        have BX2 := Lib.hid hbx2
        have sw := hGR2.by_.size
        simp only [World.size_setCell] at sw
        have qlt : w.heap.size < wr.heap.size := by have := hbx2.lt; simpa using this
        have hc3 : m' + 1 ≤ maxLen := by simp only [maxLen]; omega
        have HG2 := Lib.hid hGR2
        have OW2 := Lib.hid own2
        have hszw : (wr.setCell ⟨w.heap.size, y, none⟩ (.int .i64 ((k : Int) + 1))).heap.size = wr.heap.size := by simp
        have hnw := new6 (wr.setCell ⟨w.heap.size, y, none⟩ (.int .i64 ((k : Int) + 1))) 73 f'
        rw [hszw] at hnw
        have HNW := Lib.hid hnw
        clear hbx2 hGR2 own2 hnw
        go_wp2_with (at_builtin; refine wpList_append_own_at _ rfl (.tmp 24) (.tmp 26) 80 rfl B 73 i0 (arrF fun _ => 0) 6 48 Try.underlying80 hi hz0 hz1 hz2 rfl (by decide) _ _ _ rfl (own_alloc OW2.out _) ⟨wr.heap.size, 0, none⟩ 1 1 (cellsF f') rfl rfl HNW.out (six_oneCell f') hc3 (by omega) (by simp; omega) ?_)
        intro v' w2 hown' hgrow _ hat
        obtain ⟨A2, c2', rfl⟩ := own_slice hown'
        have hGR3 : GrowR w (.slice A m c0) w2 (.slice A2 (m' + 1) c2') := (HG2.out.alloc _).trans (GrowR.of_at hgrow (by simpa using hat))
        have hne2 : ∀ q, (Value.slice A2 (m' + 1) c2').ownBlock = some q → q ≠ w.heap.size := fun q hq => by
          rcases hat with e | e
          · exact hne.out q (e.symm.trans hq)
          · rw [hq] at e
            simp only [Option.some.injEq] at e
            omega
        have hbx3 : BoxF w2 w.heap.size f' := (BX2.out.alloc _).grownO hgrow (fun e => hne.out _ e.symm rfl)
        obtain ⟨r0, r1, r2, r3, r4, r5⟩ := hbx3.cells
        have sz2 := hgrow.size
        simp only [World.size_alloc, World.size_setCell] at sz2
        have HO3 : Hid (w2.ownsRow B 73 6 (.slice A2 (m' + 1) c2') (m' + 1) (chCells (L ++ chsK h k b ++ [b ++ [((k : Int) + 1)]]))) := by simp only [Hid]; rw [HCL.out]; exact hown'
        have HLN : Hid ((L ++ chsK h k b ++ [b ++ [((k : Int) + 1)]]).length = m' + 1) := by simp only [Hid]; rw [List.length_append, hML.out]; rfl
        have HG3 := Lib.hid hGR3
        have HN2 := Lib.hid hne2
        have HB3 := Lib.hid hbx3
        have HIH := Lib.hid (fun wx hB2 ho => IH.out (y + 1) (k + 1) (m' + 1) c2' B A2 (b ++ [((k : Int) + 1)]) f' (L ++ chsK h k b ++ [b ++ [((k : Int) + 1)]]) wx (by omega) (by rw [List.length_append, HBL.out]; rfl) HF'.out (by omega) hB2 HLN.out (by omega) ho)
        clear hown' hgrow hat hGR3 hne2 hbx3 q0 q1 q2 q3 q4 q5 HNW OW2 HG2 hc3 cy fy hcnt
        go_wp2_with fail
        refine (HIH.out _ (by omega) HO3.out).mono ?_; rintro e w3 ⟨A3, m3, c3, rfl, hL3, ho3, hg3⟩
        have hbx4 : BoxF w3 w.heap.size f' := HB3.out.grownO hg3.by_ (fun e => HN2.out _ e.symm rfl)
        have hne3 : ∀ q, (Value.slice A3 m3 c3).ownBlock = some q → q ≠ w.heap.size := fun q hq => by
          rcases hg3.at_ with e | ⟨g', e, hg'⟩
          · exact HN2.out q (e.symm.trans hq)
          · rw [hq] at e; cases e; omega
        have HL3 : Hid ((L ++ chsK h (k + 1) b).length = m3) := by simp only [Hid]; rw [HSN.out]; exact hL3
        have HO4 : Hid (w3.ownsRow B 73 6 (.slice A3 m3 c3) m3 (chCells (L ++ chsK h (k + 1) b))) := by simp only [Hid]; rw [HSN.out]; exact ho3
        have HG4 := Lib.hid (HG3.out.trans hg3)
        have HN3 := Lib.hid hne3
        have HB4 := Lib.hid hbx4
        clear hL3 ho3 hg3 hbx4 hne3 HIH HO3 HLN HG3 HN2 HB3 r0 r1 r2 r3 r4 r5
        go_wp2
        go_roundw
        case rel => exact ⟨k + 1, m3, c3, A3, f', by omega, by go_num, rfl, HL3.out, HO4.out, HB4.out, fun j hj e => by rw [HF'.out j hj, snoc_getD, HBL.out, if_neg e], HG4.out, HN3.out⟩
        case measure => simp [intOf]; omega
      · go_wp2
        go_ret
        have hkn : k = wd := by omega
        rw [hkn] at hown hML
        exact ⟨A', m', c', rfl, hML.out, hown, hGR⟩

set_option maxHeartbeats 1000000 in
theorem chompsWithin_any (wd H : Nat) (w : World) (hw : wd ≤ 6) (hH : H ≤ 6) :
    Calls Try.prog 107 #[.int .i64 (wd : Int), .int .i64 (H : Int)] w fun e w' => ∃ A' m' c', e = .returned (.slice A' m' c') ∧ (chs H wd []).length = m' ∧ w'.ownsRow w.heap.size 73 6 (.slice A' m' c') m' (chCells (chs H wd [])) ∧ Below w.heap.size w w' := by
  have HA := Lib.hid (fun wx ho => addChomps_any H hH H 0 wd 0 0 wx.heap.size none [] (fun _ => 0) [] wx (by omega) rfl (fun j _ => by simp) hw (Nat.le_refl _) rfl (by have := cntC_le hH hw; omega) ho)
  go_enter Try.func107, Try.ntmps107
  go_wp2_with fail
  refine (HA.out _ (World.ownsRow_nil _ _ _ _)).mono ?_; rintro e w1 ⟨A', m', c', rfl, hL, ho, hg⟩
  go_wp2
  go_ret
  exact ⟨A', m', c', rfl, by simpa using hL, by simpa using ho, (Below.refl _ _).grown hg.by_ (Nat.le_refl _) (fun k hk => by cases hk)⟩

end Go.Proofs.Ytghlgmbekgfmnaa
