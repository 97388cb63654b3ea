/-
  Contract: slices.Repeat of a slice of one text, so many times, 1 to 10.
-/
import Derived.Test.YtieiakljholkaaaStrs
import Derived.Test.YtieiakljholkaaaLibM
import Derived.Test.YtieiakljholkaaaReg
import Derived.Test.YtieiakljholkaaaRegR
import Derived.Laws.CopyRow
import Derived.WalkSmall
import Derived.Outline
namespace Go.Proofs.Ytieiakljholkaaa
open Go.RowKit
set_option linter.unusedVariables false
set_option linter.unusedSimpArgs false

theorem str_infoP : (Try.prog.info? 9).map (fun i => (i.zero, i.size, i.bytes)) = some (some (.string ByteArray.empty), 1, 16) := by kernel_rfl
theorem below_setRowP {B g : Nat} {a w : World} (h : Below B a w) (hg : B ≤ g) (cs : Array Value) : Below B a (w.setRow g cs) :=
  ⟨h.os, h.tape, h.output, by have := h.size; simpa [World.setRow] using this, fun b hb => by
    have e := h.block b hb
    rw [setRow_other w g b cs (by omega)]
    exact e⟩
/-- m cells of a text, the others of h empty -/
def mixL (s : ByteArray) (h m : Nat) : List Value := List.replicate m (.string s) ++ List.replicate (h - m) (.string ByteArray.empty)
theorem length_mixL (s : ByteArray) {h m : Nat} (hm : m ≤ h) : (mixL s h m).length = h := by simp [mixL]; omega
theorem mixL_next (s : ByteArray) {h m r : Nat} (hm : m + r ≤ h) : (mixL s h m).take m ++ List.replicate r (.string s) ++ (mixL s h m).drop (m + r) = mixL s h (m + r) := by
  have e1 : (mixL s h m).take m = List.replicate m (.string s) := by
    unfold mixL
    rw [List.take_append_of_le_length (by simp), List.take_of_length_le (by simp)]
  have e2 : (mixL s h m).drop (m + r) = List.replicate (h - (m + r)) (.string ByteArray.empty) := by
    unfold mixL
    rw [List.drop_append, List.drop_replicate, List.drop_replicate, List.length_replicate]
    rw [show m - (m + r) = 0 by omega, show h - m - (m + r - m) = h - (m + r) by omega]
    rfl
  rw [e1, e2, List.replicate_append_replicate]
  rfl
theorem mixL_at (s : ByteArray) {h m j : Nat} (hj : j < m) : (mixL s h m)[j]? = some (.string s) := by
  unfold mixL
  rw [List.getElem?_append_left (by simpa using hj)]
  simp [hj]
def MixAt (w : World) (g : Nat) (s : ByteArray) (h m : Nat) : Prop := w.heap[g]? = some (.cells (mixL s h m).toArray 9)
theorem MixAt.cell {w : World} {g h m j : Nat} {s : ByteArray} (hM : MixAt w g s h m) (hj : j < m) : w.cell? ⟨g, j, none⟩ = some (.string s) := by
  unfold MixAt at hM
  have := mixL_at s (h := h) hj
  simp [World.cell?, hM, this]
theorem MixAt.copy {w : World} {g h m r : Nat} {s : ByteArray} {a : Addr} {sLen sCap dCap : Nat} (hM : MixAt w g s h m) (hr : r = Nat.min sLen (h - m)) (hm : m ≤ h) (hsrc : ∀ j, j < r → w.cell? (a.add j) = some (.string s)) (ty : TypeId) :
    (Builtin.copy_ #[22, 22] ty #[.slice (some ⟨g, m, none⟩) (h - m) dCap, .slice (some a) sLen sCap]).run Try.prog w = .ok (goInt r) (w.setRow g (mixL s h (m + r)).toArray) := by
  have hrh : m + r ≤ h := by have : Nat.min sLen (h - m) ≤ h - m := Nat.min_le_right _ _; omega
  have hs : (Try.prog.info? 9).map (·.size) = some 1 := by kernel_rfl
  have e := run_copy_row (P := Try.prog) (ty := ty) w 22 22 9 g m (h - m) dCap a sLen sCap (mixL s h m).toArray 9 (List.replicate r (.string s)) Try.underlying22 hs hM (by simpa using hr) (fun j v hj => by
    have hj2 := (List.getElem?_eq_some_iff.1 hj).1
    simp at hj2
    rw [hsrc j hj2]
    simp [hj2] at hj
    rw [hj]) (by simp [length_mixL s hm]; omega) (fun v hv => by rw [List.eq_of_mem_replicate hv]; rfl)
  rw [e]
  simp only [List.length_replicate, List.toList_toArray]
  rw [mixL_next s hrh]
theorem MixAt.next {w : World} {g h m : Nat} {s : ByteArray} (hM : MixAt w g s h m) (k : Nat) : MixAt (w.setRow g (mixL s h k).toArray) g s h k := setRow_heap _ _ _ _ _ _ hM
theorem MixAt.owns {w : World} {g h B : Nat} {s : ByteArray} (hM : MixAt w g s h h) (hB : B ≤ g) (hh : h ≤ 10) : w.ownsRow B 9 1 (.slice (some ⟨g, 0, none⟩) h h) h (strCells (List.replicate h s)) := by
  refine ⟨by simp [strCells], .inr ⟨g, h, (mixL s h h).toArray, rfl, hB, hM, Nat.le_refl _, by simp only [maxLen]; omega, by simp [length_mixL s (Nat.le_refl h)], ?_⟩⟩
  simp [mixL, strCells]

set_option maxRecDepth 100000 in
set_option maxHeartbeats 2000000 in
theorem slRepeat_any (b h : Nat) (s : ByteArray) (w : World) (hcell : w.cell? ⟨b, 0, none⟩ = some (.string s)) (hb : b < w.heap.size) (h1 : 1 ≤ h) (h10 : h ≤ 10) :
    Calls Try.prog 12 #[.slice (some ⟨b, 0, none⟩) 1 1, .int .i64 h] w fun e w' => ∃ A' c', e = .returned (.slice A' h c') ∧ w'.ownsRow w.heap.size 9 1 (.slice A' h c') h (strCells (List.replicate h s)) ∧ Below w.heap.size w w' := by
  obtain ⟨i0, hi, hz0, hz1, hz2⟩ := info_parts str_infoP
  have HM : Hid (∀ wx : World, Calls Try.prog 15 #[.int .u64 1, .int .u64 h] wx fun e w' => e = .returned (.tuple #[.int .u64 0, .int .u64 h]) ∧ wx = w') := by
    intro wx
    have e := Try.bits_Mul 1 h (by omega) (by omega) wx
    rw [Nat.one_mul, Nat.div_eq_of_lt (by omega), Nat.mod_eq_of_lt (by omega)] at e
    exact e.mono fun _ _ q => ⟨q.1, q.2.symm⟩
  go_enter Try.func12, Try.ntmps12
  go_wp2_with fail
  refine (HM.out _).mono ?_; rintro e wx ⟨rfl, rfl⟩
  go_wp2_with (at_make; refine wpList_make_full _ rfl (.tmp 29) (.tmp 29) 22 rfl w.heap.size 9 i0 (.string ByteArray.empty) 1 Try.underlying22 hi hz0 hz1 .i64 .i64 _ _ h rfl rfl rfl rfl ?b2 ?b3 (Nat.le_refl _) ?_)
  case b2 => rw [hz2]; omega
  case b3 => simp only [maxLen]; omega
  intro w1 hown hgrow
  have hb1 : Below w.heap.size w w1 := (Below.refl _ _).grown hgrow (Nat.le_refl _) (fun k hk => by cases hk)
  have hM0 : MixAt w1 w.heap.size s h 0 := by
    rcases hown.2 with ⟨e, h0⟩ | ⟨g, cap, cur, e, _, hg, hle, _, hsz, htk⟩
    · omega
    · simp only [Value.slice.injEq, Option.some.injEq, Addr.mk.injEq, and_true] at e
      obtain ⟨rfl, _, rfl⟩ := e
      unfold MixAt
      rw [hg]
      congr 2
      rw [List.take_of_length_le (by simp [hsz])] at htk
      apply Array.ext'
      rw [htk]
      simp [mixL, madeCells, Value.cells]
      rw [List.eq_replicate_iff]
      simp [Nat.mod_one]
  clear hown hgrow
  have HC1 := Lib.hid (fun ty => hM0.copy (r := 1) (a := ⟨b, 0, none⟩) (sLen := 1) (sCap := 1) (dCap := h) (by have : Nat.min 1 (h - 0) = 1 := Nat.min_eq_left (by omega); exact this.symm) (by omega) (fun j hj => by
    have : j = 0 := by omega
    subst this
    exact (hb1.cell (p := ⟨b, 0, none⟩) hb).trans hcell) ty)
  have hM1 := hM0.next 1
  have hB1 := below_setRowP hb1 (Nat.le_refl _) (mixL s h 1).toArray
  have hcp : ∀ ty, (Builtin.copy_ #[22, 22] ty #[.slice (some ⟨w.heap.size, 0, none⟩) h h, .slice (some ⟨b, 0, none⟩) 1 1]).run Try.prog w1 = .ok (goInt (1 : Nat)) (w1.setRow w.heap.size (mixL s h 1).toArray) := HC1.out
  clear HC1 hM0 hb1
  generalize w1.setRow w.heap.size (mixL s h 1).toArray = w2 at *
  go_wp2
  go_loopw [8] (fun v wr => ∃ m : Nat, 1 ≤ m ∧ m ≤ h ∧ v = .int .i64 m ∧ MixAt wr w.heap.size s h m ∧ Below w.heap.size w wr) (fun v _ => h - (intOf v).toNat)
  case atStart => exact ⟨1, by omega, h1, rfl, hM1, hB1⟩
  case round =>
    clear hM1 hB1 hcp
    obtain ⟨m, hm1, hm, rfl, hMx, hB⟩ := hrel
    have sB := hB.size
    by_cases hlt : m < h
    · obtain ⟨r, hrH⟩ : ∃ r, Hid (r = Nat.min m (h - m)) := ⟨_, rfl⟩
      have hr1 : 1 ≤ r ∧ m + r ≤ h := by
        rw [hrH.out]
        rcases Nat.le_total m (h - m) with q | q
        · rw [show Nat.min m (h - m) = m from Nat.min_eq_left q]; omega
        · rw [show Nat.min m (h - m) = h - m from Nat.min_eq_right q]; omega
      have hMd : MixAt wr.drew w.heap.size s h m := hMx
      have hcp : ∀ ty dc, (Builtin.copy_ #[22, 22] ty #[.slice (some ⟨w.heap.size, m, none⟩) (h - m) dc, .slice (some ⟨w.heap.size, 0, none⟩) m h]).run Try.prog wr.drew = .ok (goInt r) (wr.drew.setRow w.heap.size (mixL s h (m + r)).toArray) := fun ty dc => hMd.copy (r := r) (a := ⟨w.heap.size, 0, none⟩) (sLen := m) (sCap := h) (dCap := dc) hrH.out (by omega) (fun j hj => by
        have e : (⟨w.heap.size, 0, none⟩ : Addr).add j = ⟨w.heap.size, j, none⟩ := by unfold Addr.add; split <;> simp_all
        rw [e]
        exact hMd.cell (by have : Nat.min m (h - m) ≤ m := Nat.min_le_left _ _; have := hrH.out; omega)) ty
      have hM2 : MixAt (wr.drew.setRow w.heap.size (mixL s h (m + r)).toArray) w.heap.size s h (m + r) := hMd.next _
      have hB2 : Below w.heap.size w (wr.drew.setRow w.heap.size (mixL s h (m + r)).toArray) := below_setRowP (bdrewN 1 hB) (Nat.le_refl _) _
      generalize wr.drew.setRow w.heap.size (mixL s h (m + r)).toArray = w3 at *
      have hwr : IntKind.i64.wrap ((m : Int) + (r : Int)) = ((m + r : Nat) : Int) := IntWalk.i64_in _ ⟨by omega, by omega⟩
      have g3 : (m ≤ h) = True := eq_true hm
      have g6 : (m ≤ h) = True := eq_true hm
      have gb : (h = m) = False := eq_false (by omega)
      go_wp2
      refine wp_region_held_drew (S := (fun w' => True)) (by kernel_rfl) ?_ (fun hHeld => ?_)
      · ((try dsimp only); (repeat' apply And.intro); all_goals ((repeat (first | (with_reducible refine cell_drew ?_) | (with_reducible refine cell_drewN _ ?_) | ((with_reducible refine cell_alloc ?_ ?_); · first | omega | (simp; done) | (simp; omega) | assumption) | ((with_reducible refine cell_set ?_ ?_); · first | (intro e; injection e; omega) | (intro e; simp at e; done) | (intro e; simp at e; omega)))); first | assumption | (simp; done)))
      refine reg_on (i := 0) (d := 38) (v := ?rv1) rfl rfl (by kernel_rfl) (by kernel_rfl) (by kernel_rfl) (fun _ _ _ h => h) (by rfl) ?ry1 (by assumption) ?rr1
      case ry1 => (intro wz hSw; (try dsimp only at hSw); go_simp; try with_reducible rfl)
      (try simp only [Act.put, List.setIfInBounds_toArray, List.set_cons_zero, List.set_cons_succ])
      refine reg_on (i := 1) (d := 39) (v := ?rv2) rfl rfl (by kernel_rfl) (by kernel_rfl) (by kernel_rfl) (fun _ _ _ h => h) (by rfl) ?ry2 (by assumption) ?rr2
      case ry2 => (intro wz hSw; (try dsimp only at hSw); go_simp; try with_reducible rfl)
      (try simp only [Act.put, List.setIfInBounds_toArray, List.set_cons_zero, List.set_cons_succ])
      refine reg_on (i := 2) (d := 40) (v := ?rv3) rfl rfl (by kernel_rfl) (by kernel_rfl) (by kernel_rfl) (fun _ _ _ h => h) (by rfl) ?ry3 (by assumption) ?rr3
      case ry3 => (intro wz hSw; (try dsimp only at hSw); go_simp; try with_reducible rfl)
      (try simp only [Act.put, List.setIfInBounds_toArray, List.set_cons_zero, List.set_cons_succ])
      refine reg_on (i := 3) (d := 41) (v := ?rv4) rfl rfl (by kernel_rfl) (by kernel_rfl) (by kernel_rfl) (fun _ _ _ h => h) (by rfl) ?ry4 (by assumption) ?rr4
      case ry4 => (intro wz hSw; (try dsimp only at hSw); go_simp; (try simp only [ge_iff_le, gt_iff_lt, g3, gb, decide_false, decide_true, if_true, if_false]); try with_reducible rfl)
      (try simp only [Act.put, List.setIfInBounds_toArray, List.set_cons_zero, List.set_cons_succ])
      refine reg_on (i := 4) (d := 42) (v := ?rv5) rfl rfl (by kernel_rfl) (by kernel_rfl) (by kernel_rfl) (fun _ _ _ h => h) (by rfl) ?ry5 (by assumption) ?rr5
      case ry5 => (intro wz hSw; (try dsimp only at hSw); go_simp; try with_reducible rfl)
      (try simp only [Act.put, List.setIfInBounds_toArray, List.set_cons_zero, List.set_cons_succ])
      refine reg_on (i := 5) (d := 43) (v := ?rv6) rfl rfl (by kernel_rfl) (by kernel_rfl) (by kernel_rfl) (fun _ _ _ h => h) (by rfl) ?ry6 (by assumption) ?rr6
      case ry6 => (intro wz hSw; (try dsimp only at hSw); go_simp; try with_reducible rfl)
      (try simp only [Act.put, List.setIfInBounds_toArray, List.set_cons_zero, List.set_cons_succ])
      refine reg_on (i := 6) (d := 44) (v := ?rv7) rfl rfl (by kernel_rfl) (by kernel_rfl) (by kernel_rfl) (fun _ _ _ h => h) (by rfl) ?ry7 (by assumption) ?rr7
      case ry7 => (intro wz hSw; (try dsimp only at hSw); go_simp; (try simp only [ge_iff_le, gt_iff_lt, g6, decide_false, decide_true, if_true, if_false]); try with_reducible rfl)
      (try simp only [Act.put, List.setIfInBounds_toArray, List.set_cons_zero, List.set_cons_succ])
      refine wpAnyH_ready (rs := [7]) (by kernel_rfl) (by simp) ?_
      refine AllReadyH.cons rfl (fun K hK => ?_) AllReadyH.nil
      go_simp
      refine hK.out _ _ ?_ (fun hHeld => ?_)
      · ((try dsimp only); (repeat' apply And.intro); all_goals ((repeat (first | (with_reducible refine cell_drew ?_) | (with_reducible refine cell_drewN _ ?_) | ((with_reducible refine cell_alloc ?_ ?_); · first | omega | (simp; done) | (simp; omega) | assumption) | ((with_reducible refine cell_set ?_ ?_); · first | (intro e; injection e; omega) | (intro e; simp at e; done) | (intro e; simp at e; omega)))); first | assumption | (simp; done)))
      clear hK K
      (try simp only [Act.put, List.setIfInBounds_toArray, List.set_cons_zero, List.set_cons_succ])
      refine reg_on (i := 8) (d := 46) (v := ?rv9) rfl rfl (by kernel_rfl) (by kernel_rfl) (by kernel_rfl) (fun _ _ _ h => h) (by rfl) ?ry9 (by assumption) ?rr9
      case ry9 => (intro wz hSw; (try dsimp only at hSw); go_simp; try with_reducible rfl)
      (try simp only [Act.put, List.setIfInBounds_toArray, List.set_cons_zero, List.set_cons_succ])
      refine reg_on (i := 9) (d := 8) (v := ?rv10) rfl rfl (by kernel_rfl) (by kernel_rfl) (by kernel_rfl) (fun _ _ _ h => h) (by rfl) ?ry10 (by assumption) ?rr10
      case ry10 => (intro wz hSw; (try dsimp only at hSw); go_simp; try with_reducible rfl)
      (try simp only [Act.put, List.setIfInBounds_toArray, List.set_cons_zero, List.set_cons_succ])
      refine wpAnyH_done (by kernel_rfl) ?_ _
      go_wp2
      go_roundw
      case rel => exact ⟨m + r, by omega, by omega, by go_num, hM2, hB2⟩
      case measure => simp [intOf]; omega
    · have hmh : m = h := by omega
      rw [hmh] at hMx
      go_wp2
      go_ret
      exact ⟨_, h, rfl, hMx.owns (Nat.le_refl _) h10, hB⟩

end Go.Proofs.Ytieiakljholkaaa
