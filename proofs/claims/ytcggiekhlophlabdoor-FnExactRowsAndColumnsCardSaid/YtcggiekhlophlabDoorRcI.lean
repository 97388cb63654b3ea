/-
  Contracts: RowsAndColumns of the program. Conditions: none.
-/
import Derived.Test.YtcggiekhlophlabDoorRcP
import Derived.Test.YtcggiekhlophlabDoorIKit
import Derived.Test.YtcggiekhlophlabDoorMark
namespace Go.Proofs.YtcggiekhlophlabDoor
open Go.RowKit Go.Shelf
set_option linter.unusedVariables false
set_option linter.unusedSimpArgs false

theorem int_infoR : (Tryd.prog.info? 3).map (fun i => (i.zero, i.size, i.bytes)) = some (some (.int .i64 0), 1, 8) := by kernel_rfl
/-- the first k numbers of which p holds -/
def selL (p : Nat → Bool) (k : Nat) : List Int := ((List.range k).filter p).map fun (x : Nat) => (x : Int)
theorem length_selL (p : Nat → Bool) (k : Nat) : (selL p k).length ≤ k := by
  unfold selL
  rw [List.length_map]
  exact Nat.le_trans (List.length_filter_le _ _) (by simp)
theorem selL_yes {p : Nat → Bool} {k : Nat} (h : p k = true) : selL p (k + 1) = selL p k ++ [(k : Int)] := by
  simp [selL, List.range_succ, h]
theorem selL_no {p : Nat → Bool} {k : Nat} (h : p k = false) : selL p (k + 1) = selL p k := by
  simp [selL, List.range_succ, h]
def rowP (ss : List ByteArray) (y : Nat) : Bool := hasX (ss.getD y ByteArray.empty).data.toList
def colP (ss : List ByteArray) (x : Nat) : Bool := hasX (colB ss x)
def rowsR (ss : List ByteArray) : List Int := if rcB ss then selL (rowP ss) ss.length else []
def colsR (ss : List ByteArray) : List Int := if rcB ss then selL (colP ss) (sizeW ss) else []
theorem length_rowsR (ss : List ByteArray) : (rowsR ss).length ≤ 20 := by
  unfold rowsR
  split
  · rename_i h
    have := rcB_true h
    exact Nat.le_trans (length_selL _ _) (by omega)
  · simp
theorem length_colsR (ss : List ByteArray) : (colsR ss).length ≤ 60 := by
  unfold colsR
  split
  · rename_i h
    have := rcB_true h
    exact Nat.le_trans (length_selL _ _) (by omega)
  · simp
def rcN (ss : List ByteArray) : Int := (((rowsR ss).length * (colsR ss).length : Nat) : Int)
theorem rc_no {ss : List ByteArray} (h : rcB ss = false) : rowsR ss = [] ∧ colsR ss = [] ∧ rcN ss = 0 := by simp [rowsR, colsR, rcN, h]
def ApartR (v v' : Value) : Prop := (v.ownBlock = none ∨ v.ownBlock ≠ v'.ownBlock) ∧ (v'.ownBlock = none ∨ v'.ownBlock ≠ v.ownBlock)

set_option maxRecDepth 100000 in
set_option maxHeartbeats 4000000 in
theorem rowsCols_any (A : Option Addr) (n c : Nat) (ss : List ByteArray) (w : World) (hr : Rd w 1 A n (strCells ss)) (hsz : ∀ s ∈ ss, s.size ≤ 9223372036854775807) (hn : n ≤ 1048576) :
    Calls Tryd.prog 13 #[.slice A n c] w fun e w' => ∃ A1 n1 c1 A2 n2 c2, e = .returned (.tuple #[.slice A1 n1 c1, .slice A2 n2 c2, .int .i64 (rcN ss), .bool (rcB ss)]) ∧ w'.ownsRow w.heap.size 3 1 (.slice A1 n1 c1) n1 (intCells (rowsR ss)) ∧ w'.ownsRow w.heap.size 3 1 (.slice A2 n2 c2) n2 (intCells (colsR ss)) ∧ ApartR (.slice A1 n1 c1) (.slice A2 n2 c2) ∧ Below w.heap.size w w' := by
  have HA := Lib.hid (fun wx (h : Rd wx 1 A n (strCells ss)) => areRows_any A n c ss wx h hsz hn)
  cases hB : rcB ss
  · obtain ⟨e1, e2, e3⟩ := rc_no hB
    rw [e1, e2, e3]
    rw [hB] at HA
    go_enter Tryd.func13, Tryd.ntmps13
    go_wp2_with fail
    refine (HA.out _ hr).mono ?_; rintro e w1 ⟨rfl, hb1⟩
    go_wp2
    refine bodyPost_ret (v := .tuple #[.slice none 0 0, .slice none 0 0, .int .i64 0, .bool false]) (by simp [results, Tryd.results13, go_sem]) rfl ?_
    exact ⟨none, 0, 0, none, 0, 0, rfl, World.ownsRow_nil _ _ _ _, World.ownsRow_nil _ _ _ _, ⟨.inl rfl, .inl rfl⟩, hb1⟩
  · obtain ⟨b1, b2, b3, b4, hall⟩ := rcB_true hB
    rw [show rowsR ss = selL (rowP ss) ss.length by simp [rowsR, hB], show colsR ss = selL (colP ss) (sizeW ss) by simp [colsR, hB], show rcN ss = (((selL (rowP ss) ss.length).length * (selL (colP ss) (sizeW ss)).length : Nat) : Int) by simp [rcN, rowsR, colsR, hB]]
    rw [hB] at HA
    have hl := hr.slen
    rw [hl] at b1 b2 ⊢
    have HL := Lib.hid hl
    obtain ⟨W, hW⟩ : ∃ W, W = sizeW ss := ⟨_, rfl⟩
    rw [← hW] at b3 b4 hall ⊢
    have HALL := Lib.hid (fun s hs => (hall s hs).2)
    have HW := Lib.hid hW
    obtain ⟨i0, hi, hz0, hz1, hz2⟩ := info_parts int_infoR
    clear hl hW hall hB hsz hn
    go_enter Tryd.func13, Tryd.ntmps13
    go_wp2_with fail
    refine (HA.out _ hr).mono ?_; rintro e w1 ⟨rfl, hb1⟩
    have s1 := hb1.size
    have hr1 := hr.later hb1 (Nat.le_refl _)
    have HB1 := Lib.hid hb1
    clear hb1 hr
    go_wp2
    go_loopw [6, 8, 9, 16] (fun v _ _ i wr => ∃ (k m : Nat) (A' : Option Addr) (c' : Nat), k ≤ n ∧ i = .int .i64 k ∧ v = .slice A' m c' ∧ m ≤ k ∧ wr.ownsRow w1.heap.size 3 1 (.slice A' m c') m (intCells (selL (rowP ss) k)) ∧ Below w1.heap.size w1 wr) (fun _ _ _ i _ => n - (intOf i).toNat)
    case atStart => exact ⟨0, 0, none, 0, Nat.zero_le _, rfl, rfl, Nat.le_refl _, World.ownsRow_nil _ _ _ _, Below.refl _ _⟩
    case round =>
      obtain ⟨k, m, A', c', hk, rfl, rfl, hmk, hown, hB⟩ := hrel
      have sB := hB.size
      by_cases hlt : k < n
      · obtain ⟨b5, o5, rfl, l5, hx, p5⟩ := (hr1.later hB (Nat.le_refl _)).str hlt
        have HH := Lib.hid (fun wx => hasBitter_any ss[k] wx)
        have hrp : rowP ss k = hasX (ss[k]).data.toList := by simp [rowP, List.getD, List.getElem?_eq_getElem hx]
        have hzk : (ss[k]).size ≤ 60 := by rw [HALL.out _ (List.getElem_mem hx)]; exact b4
        generalize ss[k] = t at *
        cases hp : hasX t.data.toList
        · rw [hp] at HH hrp
          have HE := Lib.hid (selL_no hrp)
          clear hrp hp
          go_wp2_with (go_at_call 28; refine (HH.out _).mono ?_; rintro e wx ⟨rfl, rfl⟩)
          go_roundw
          case rel => exact ⟨k + 1, m, A', c', by omega, by go_num, rfl, by omega, by rw [HE.out]; exact hown, hB⟩
          case measure => simp [intOf]; omega
        · rw [hp] at HH hrp
          have HE := Lib.hid (selL_yes hrp)
          have hc3 : m + 1 ≤ maxLen := by simp only [maxLen]; omega
          clear hrp hp
          go_wp2_with fail
          refine (HH.out _).mono ?_; rintro e wx ⟨rfl, rfl⟩
          go_wp2_with (at_builtin; refine wpList_append_own _ rfl (.tmp 23) (.tmp 25) 30 rfl w1.heap.size 3 i0 (.int .i64 0) 1 8 Tryd.underlying30 hi hz0 hz1 hz2 rfl (by decide) _ _ _ rfl (hown.alloc _) ⟨wr.heap.size, 0, none⟩ 1 1 [.int .i64 (k : Int)] rfl rfl (new1 _ _ _) (int_oneCell [_]) hc3 (by omega) (Nat.le_trans sB (show wr.heap.size ≤ _ by simp)) ?_)
          intro v' w2 hown' hgrow _
          have hb2 := gb_new (Nat.le_refl _) (hB.alloc (by omega) (.cells #[.int .i64 (k : Int)] 3)) hgrow (fun g hg => (hown.lt g hg).1)
          obtain ⟨A2, c2', rfl⟩ := own_slice hown'
          clear hgrow hown hB hc3
          go_wp2
          go_roundw
          case rel => exact ⟨k + 1, m + 1, A2, c2', by omega, by go_num, rfl, by omega, by rw [HE.out, intCells_append]; exact hown', hb2⟩
          case measure => simp [intOf]; omega
      · have hkn : k = n := by omega
        have hown2 : wr.ownsRow w1.heap.size 3 1 (.slice A' m c') m (intCells (selL (rowP ss) n)) := by rw [← hkn]; exact hown
        have hki : ¬ (k : Int) < (n : Int) := by omega
        have ML : Hid ((selL (rowP ss) n).length = m) := by have := hown2.1; rw [length_intCells] at this; simp only [Hid]; omega
        have hm20 : m ≤ 20 := by omega
        clear hkn hown
        obtain ⟨wo, rfl⟩ : ∃ wo, wo = wr := ⟨_, rfl⟩
        have hro := hr1.later hB (Nat.le_refl _)
        obtain ⟨b0, o0, rfl, l0, hx0, p0⟩ := hro.str (show 0 < n by omega)
        have p0' : wo.cell? ⟨b0, o0, none⟩ = some (.string ss[0]) := p0
        have hz0' : (ss[0]).size = W := HALL.out _ (List.getElem_mem hx0)
        have HOW := Lib.hid hown2
        have HBO := Lib.hid hB
        have sBO := hB.size
        generalize ss[0] = t0 at *
        subst hz0'
        clear hB hown2 p0
        go_wp2
        go_loopw [7, 10, 32] (fun v _ i wr => ∃ (x q : Nat) (A2 : Option Addr) (c2 : Nat), x ≤ t0.size ∧ i = .int .i64 x ∧ v = .slice A2 q c2 ∧ q ≤ x ∧ wr.ownsRow wo.heap.size 3 1 (.slice A2 q c2) q (intCells (selL (colP ss) x)) ∧ Below wo.heap.size wo wr) (fun _ _ i _ => t0.size - (intOf i).toNat)
        case atStart => exact ⟨0, 0, none, 0, Nat.zero_le _, rfl, rfl, Nat.le_refl _, World.ownsRow_nil _ _ _ _, Below.refl _ _⟩
        case round =>
          obtain ⟨x, q, A2, c2, hxk, rfl, rfl, hqx, hown, hB⟩ := hrel
          have sB := hB.size
          by_cases hltx : x < t0.size
          · have HC := Lib.hid (columnOf_any (some ⟨b0, o0, none⟩) n c x ss wr (hro.later hB (Nat.le_refl _)) (fun s hs => by rw [HALL.out s hs]; exact hltx) (by omega) (by omega) (fun s hs => by rw [HALL.out s hs]; omega))
            have hcl : (⟨(colB ss x).toArray⟩ : ByteArray).data.toList = colB ss x := rfl
            have HH := Lib.hid (fun wx => hasBitter_any ⟨(colB ss x).toArray⟩ wx)
            rw [hcl] at HH
            have hcp : colP ss x = hasX (colB ss x) := rfl
            go_wp2_with fail
            refine HC.out.mono ?_; rintro e w3 ⟨rfl, hb3⟩
            have s3 := hb3.size
            have hown3 := own_later hown hb3 (Nat.le_refl _)
            have hB3 := hB.trans (hb3.mono sB)
            have sB3 := hB3.size
            cases hp : hasX (colB ss x)
            · rw [hp] at HH hcp
              have HE := Lib.hid (selL_no hcp)
              clear hcp hp hown hB hb3
              go_wp2_with (go_at_call 28; refine (HH.out _).mono ?_; rintro e wx ⟨rfl, rfl⟩)
              go_roundw
              case rel => exact ⟨x + 1, q, A2, c2, by omega, by go_num, rfl, by omega, by rw [HE.out]; exact hown3, hB3⟩
              case measure => simp [intOf]; omega
            · rw [hp] at HH hcp
              have HE := Lib.hid (selL_yes hcp)
              have hc3 : q + 1 ≤ maxLen := by simp only [maxLen]; omega
              clear hcp hp hown hB hb3
              go_wp2_with fail
              refine (HH.out _).mono ?_; rintro e wx ⟨rfl, rfl⟩
              go_wp2_with (at_builtin; refine wpList_append_own _ rfl (.tmp 39) (.tmp 41) 30 rfl wo.heap.size 3 i0 (.int .i64 0) 1 8 Tryd.underlying30 hi hz0 hz1 hz2 rfl (by decide) _ _ _ rfl (hown3.alloc _) ⟨w3.heap.size, 0, none⟩ 1 1 [.int .i64 (x : Int)] rfl rfl (new1 _ _ _) (int_oneCell [_]) hc3 (by omega) (Nat.le_trans sB3 (show w3.heap.size ≤ _ by simp)) ?_)
              intro v' w4 hown' hgrow _
              have hb4 := gb_new (Nat.le_refl _) (hB3.alloc (by omega) (.cells #[.int .i64 (x : Int)] 3)) hgrow (fun g hg => (hown3.lt g hg).1)
              obtain ⟨A4, c4', rfl⟩ := own_slice hown'
              clear hgrow hown3 hB3 hc3
              go_wp2
              go_roundw
              case rel => exact ⟨x + 1, q + 1, A4, c4', by omega, by go_num, rfl, by omega, by rw [HE.out, intCells_append]; exact hown', hb4⟩
              case measure => simp [intOf]; omega
          · have hxe : x = t0.size := by omega
            have hownc : wr.ownsRow wo.heap.size 3 1 (.slice A2 q c2) q (intCells (selL (colP ss) t0.size)) := by rw [← hxe]; exact hown
            have QL : Hid ((selL (colP ss) t0.size).length = q) := by have := hownc.1; rw [length_intCells] at this; simp only [Hid]; omega
            obtain ⟨z, hz⟩ : ∃ z, z = m * q := ⟨_, rfl⟩
            have e2 : wrap64 ((m : Int) * (q : Int)) = (z : Int) := by
              have hmq : m * q ≤ 20 * 60 := Nat.mul_le_mul hm20 (by omega)
              have : (m : Int) * (q : Int) = (z : Int) := by rw [hz]; push_cast; rfl
              rw [this]; exact IntWalk.wrap64_in _ (by omega)
            have HZ := Lib.hid hz
            have own1 := own_later HOW.out hB (Nat.le_refl _)
            have ap : ApartR (.slice A' m c') (.slice A2 q c2) := ⟨own_apart (fun g h => HOW.out.lt g h) (fun g h => hownc.lt g h) (.inl (Nat.le_refl _)), own_apart (fun g h => hownc.lt g h) (fun g h => HOW.out.lt g h) (.inr (Nat.le_refl _))⟩
            have BF := Lib.hid (HB1.out.trans ((HBO.out.trans (hB.mono sBO)).mono s1))
            have OA := Lib.hid (own_base own1 s1)
            have OB := Lib.hid (own_base hownc (Nat.le_trans s1 sBO))
            have AP := Lib.hid ap
            have hki2 : ¬ (x : Int) < (t0.size : Int) := by omega
            have hq60 : q ≤ 60 := by omega
            clear own1 ap hownc hown hB hz hxe
            go_wp2
            refine bodyPost_ret (v := .tuple #[.slice A' m c', .slice A2 q c2, .int .i64 (z : Int), .bool true]) (by simp [results, Tryd.results13, go_sem, e2]) rfl ?_
            exact ⟨A', m, c', A2, q, c2, by rw [ML.out, QL.out, HZ.out]; first | rfl | (push_cast; rfl), OA.out, OB.out, AP.out, BF.out⟩
end Go.Proofs.YtcggiekhlophlabDoor
