/-
  Contracts: BiteSquare of the program and of the model.
-/
import Derived.Test.YtieiakljholkaabDoorSqOk
import Derived.Test.YtieiakljholkaabDoorSKit
import Derived.Test.YtieiakljholkaabDoorTabM
import Derived.Deep.RegionHeld3
import Derived.WalkSmall
namespace Go.Proofs.YtieiakljholkaabDoor
open Go.RowKit
set_option linter.unusedVariables false
set_option linter.unusedSimpArgs false

theorem own_capT {w : World} {B e z n c : Nat} {A : Option Addr} {xs : List Value} (h : w.ownsRow B e z (.slice A n c) n xs) : n ≤ c := by
  rcases h.2 with ⟨_, h0⟩ | ⟨g, cap, cur, e, hb, hg, hn, _⟩
  · omega
  · simp only [Value.slice.injEq] at e
    omega
theorem rd_addT {w : World} {n b o : Nat} {xs : List ByteArray} (hr : Rd w 1 (some ⟨b, o, none⟩) n (strCells xs)) : ∀ (j : Nat) (u : Value), (strCells xs)[j]? = some u → w.cell? ((⟨b, o, none⟩ : Addr).add j) = some u := by
  intro j u hu
  have hj : j < n := by have := (List.getElem?_eq_some_iff.1 hu).1; rw [length_strCells, hr.slen] at this; exact this
  obtain ⟨b', o', e, _, hc⟩ := hr.2 (by omega)
  simp only [Option.some.injEq, Addr.mk.injEq, and_true] at e
  obtain ⟨rfl, rfl⟩ := e
  have e1 : (⟨b, o, none⟩ : Addr).add j = ⟨b, o + j, none⟩ := by unfold Addr.add; split <;> simp_all
  rw [e1]
  exact hc j u hu

set_option maxHeartbeats 1000000 in
theorem slCloneT_any (b o n c : Nat) (xs : List ByteArray) (w : World) (hr : Rd w 1 (some ⟨b, o, none⟩) n (strCells xs)) (hn : n ≤ 10) :
    Calls Tryd.prog 68 #[.slice (some ⟨b, o, none⟩) n c] w fun e w' => ∃ A' c', e = .returned (.slice A' n c') ∧ w'.ownsRow w.heap.size 9 1 (.slice A' n c') n (strCells xs) ∧ Below w.heap.size w w' := by
  obtain ⟨i0, hi, hz0, hz1, hz2⟩ := info_parts str_infoM
  have hl := hr.slen
  have HL := Lib.hid hl
  clear hl
  have hne := World.ownsRow_lit (base := w.heap.size) (e := 9) (size := 1) w #[] 0 (Nat.le_refl _) (by simp [maxLen]) rfl
  have hr2 := hr.alloc (.cells #[] 9)
  have hc0 : (strCells xs).length = n * 1 := by rw [length_strCells, HL.out, Nat.mul_one]
  have hc1 := rd_addT hr2
  have hc3 : 0 + n ≤ maxLen := by simp only [maxLen]; omega
  have hc4 : (0 + n) * 16 ≤ 140737488355328 := by omega
  have hc5 : w.heap.size ≤ (w.alloc (.cells #[] 9)).heap.size := by simp
  have hnil := fun wx => Lib.run_eql_slice_nil (P := Tryd.prog) wx 22 9 (some ⟨b, o, none⟩) n c 0 0 Tryd.underlying22
  go_enter Tryd.func68, Tryd.ntmps68
  go_wp2_with (at_builtin; refine wpList_append_own _ rfl (.tmp 5) (.tmp 6) 22 rfl w.heap.size 9 i0 (.string ByteArray.empty) 1 16 Tryd.underlying22 hi hz0 hz1 hz2 rfl (by decide) _ _ _ rfl hne ⟨b, o, none⟩ n c (strCells xs) rfl hc0 hc1 (str_oneCell xs) hc3 hc4 hc5 ?_)
  intro v' w2 hown' hgrow _
  have hb2 := gb_new (Nat.le_refl _) ((Below.refl w.heap.size w).alloc (Nat.le_refl _) (.cells #[] 9)) hgrow (fun g hg => (hne.lt g hg).1)
  obtain ⟨A', c', rfl⟩ := own_slice hown'
  clear hc0 hc1 hc3 hc4 hc5
  go_wp2
  go_ret
  exact ⟨A', c', rfl, hown', hb2⟩

set_option maxRecDepth 100000 in
set_option maxHeartbeats 2000000 in
theorem biteSq_any (A : Option Addr) (n c W x y : Nat) (ss : List ByteArray) (w : World) (hr : Rd w 1 A n (strCells ss)) (hb : TB ss W n) (hx : x < W) (hy : y < n) :
    Calls Tryd.prog 51 #[.slice A n c, bar2 x y] w fun e w' => ∃ A' c', e = .returned (.slice A' n c') ∧ w'.ownsRow w.heap.size 9 1 (.slice A' n c') n (strCells (tabF W n (bite (tq ss) y x))) ∧ Below w.heap.size w w' := by
  have hn10 := hb.h10
  have hW10 := hb.w10
  obtain ⟨b, o, rfl, hbl, s00, p00, hs00⟩ := hr.tab0 hb
  clear p00 hs00
  have HS : Hid (ss = tabF W n (tq ss)) := hb.eq
  go_enter Tryd.func51, Tryd.ntmps51
  go_wp2_with fail
  refine (slCloneT_any b o n c ss _ (hr.later (B := w.heap.size) (by (repeat (first | (with_reducible exact Below.refl _ _) | (with_reducible assumption) | (with_reducible refine Below.drew ?_) | ((with_reducible refine balloc ?_ _ ?_); · (first | (simp; done) | (simp; omega) | omega)) | ((with_reducible refine bset ?_ _ ?_); · (first | (simp; done) | (simp; omega) | omega)) | (with_reducible refine bdrewN _ ?_) | ((with_reducible refine bcall ?_ (by assumption) ?_); · (first | (simp; done) | (simp; omega) | omega))))) (Nat.le_refl _)) (by omega)).mono ?_; rintro e w1 ⟨A1, c1, rfl, own1, hb1⟩
  have s1 := hb1.size
  simp at s1
  have q0 : w1.cell? ⟨w.heap.size, 0, none⟩ = some (.int .i64 (x : Int)) := (hb1.cell (p := ⟨w.heap.size, 0, none⟩) (by simp)).trans (by simp [go_sem])
  have q1 : w1.cell? ⟨w.heap.size, 1, none⟩ = some (.int .i64 (y : Int)) := (hb1.cell (p := ⟨w.heap.size, 1, none⟩) (by simp)).trans (by simp [go_sem])
  have hbw : Below w.heap.size w w1 := by (repeat (first | (with_reducible exact Below.refl _ _) | (with_reducible assumption) | (with_reducible refine Below.drew ?_) | ((with_reducible refine balloc ?_ _ ?_); · (first | (simp; done) | (simp; omega) | omega)) | ((with_reducible refine bset ?_ _ ?_); · (first | (simp; done) | (simp; omega) | omega)) | (with_reducible refine bdrewN _ ?_) | ((with_reducible refine bcall ?_ (by assumption) ?_); · (first | (simp; done) | (simp; omega) | omega))))
  obtain ⟨g, rfl, hg1, hg2⟩ := own_at own1 (by omega)
  have hg1' : w.heap.size + 1 ≤ g := by simp at hg1; omega
  obtain ⟨s, p, hz, hrow, _⟩ := (Rd.of_own own1).trow hb hy
  simp only [Nat.zero_add] at p
  have hz' : s.size = W := hz.out
  have HE : Hid (s.extract 0 x ++ ⟨#[46]⟩ ++ s.extract (x + 1) W = rowF W (fun i => tq ss y i && !decide (i = x))) := by
    have h := rowF_bite (f := tq ss y) hx
    rw [← hrow.out, hz'] at h
    exact h
  have e1 : (s.extract 0 x).size = x := by rw [ByteArray.size_extract]; omega
  have e2 : (s.extract (x + 1) W).size = W - (x + 1) := by rw [ByteArray.size_extract]; omega
  have e3 : (s.extract 0 x ++ (⟨#[46]⟩ : ByteArray)).size = x + 1 := by rw [ByteArray.size_append, e1]; rfl
  have g6 : (x ≤ W) = True := eq_true (by omega)
  have g12 : (0 ≤ (x : Int) + 1 ∧ (x : Int) + 1 ≤ (W : Int)) = True := eq_true (by omega)
  have g11 : IntKind.i64.wrap ((x : Int) + 1) = ((x + 1 : Nat) : Int) := IntWalk.i64_in _ ⟨by omega, by omega⟩
  have g7 : (9223372036854775807 < x + 1) = False := eq_false (by omega)
  have g13 : (9223372036854775807 < x + 1 + (W - (x + 1))) = False := eq_false (by omega)
  have f0 := own1.frozenAt y
  have st := (own1.stored y (.string (s.extract 0 x ++ ⟨#[46]⟩ ++ s.extract (x + 1) W)))
  have ST := Lib.hid st.1
  clear st own1 hb1
  go_wp2
  refine wp_region_held_drew (S := (fun w' => w'.cell? ⟨w.heap.size, 0, none⟩ = some (.int .i64 (x : Int)) ∧ w'.cell? ⟨w.heap.size, 1, none⟩ = some (.int .i64 (y : Int)))) (by kernel_rfl) ?_ (fun hHeld => ?_)
  · ((try dsimp only); (repeat' apply And.intro); all_goals ((repeat (first | (with_reducible refine cell_drew ?_) | (with_reducible refine cell_drewN _ ?_) | ((with_reducible refine cell_alloc ?_ ?_); · first | omega | (simp; done) | (simp; omega) | assumption) | ((with_reducible refine cell_set ?_ ?_); · first | (intro e; injection e; omega) | (intro e; simp at e; done) | (intro e; simp at e; omega)))); first | assumption | (simp; done)))
  refine reg_on (i := 0) (d := 14) (v := ?rv1) rfl rfl (by kernel_rfl) (by kernel_rfl) (by kernel_rfl) (fun _ _ _ h => h) (by rfl) ?ry1 (by assumption) ?rr1
  case ry1 => (intro wz hSw; (try dsimp only at hSw); go_simp; try with_reducible rfl)
  (try simp only [Act.put, List.setIfInBounds_toArray, List.set_cons_zero, List.set_cons_succ])
  refine reg_on (i := 1) (d := 15) (v := ?rv2) rfl rfl (by kernel_rfl) (by kernel_rfl) (by kernel_rfl) (fun _ _ _ h => h) (by rfl) ?ry2 (by assumption) ?rr2
  case ry2 => (intro wz hSw; (try dsimp only at hSw); go_simp; try with_reducible rfl)
  (try simp only [Act.put, List.setIfInBounds_toArray, List.set_cons_zero, List.set_cons_succ])
  refine reg_on (i := 2) (d := 16) (v := ?rv3) rfl rfl (by kernel_rfl) (by kernel_rfl) (by kernel_rfl) (fun _ _ _ h => h) (by rfl) ?ry3 (by assumption) ?rr3
  case ry3 => (intro wz hSw; (try dsimp only at hSw); go_simp; try with_reducible rfl)
  (try simp only [Act.put, List.setIfInBounds_toArray, List.set_cons_zero, List.set_cons_succ])
  refine reg_on (i := 3) (d := 17) (v := ?rv4) rfl rfl (by kernel_rfl) (by kernel_rfl) (by kernel_rfl) (fun _ _ _ h => h) (by rfl) ?ry4 (by assumption) ?rr4
  case ry4 => (intro wz hSw; (try dsimp only at hSw); go_simp; try with_reducible rfl)
  (try simp only [Act.put, List.setIfInBounds_toArray, List.set_cons_zero, List.set_cons_succ])
  refine reg_on (i := 4) (d := 18) (v := ?rv5) rfl rfl (by kernel_rfl) (by kernel_rfl) (by kernel_rfl) (fun _ _ _ h => h) (by rfl) ?ry5 (by assumption) ?rr5
  case ry5 => (intro wz hSw; (try dsimp only at hSw); go_simp; try with_reducible rfl)
  (try simp only [Act.put, List.setIfInBounds_toArray, List.set_cons_zero, List.set_cons_succ])
  refine reg_on (i := 5) (d := 19) (v := ?rv6) rfl rfl (by kernel_rfl) (by kernel_rfl) (by kernel_rfl) (fun _ _ _ h => h) (by rfl) ?ry6 (by assumption) ?rr6
  case ry6 => (intro wz hSw; (try dsimp only at hSw); go_simp; try with_reducible rfl)
  (try simp only [Act.put, List.setIfInBounds_toArray, List.set_cons_zero, List.set_cons_succ])
  refine reg_on (i := 6) (d := 20) (v := ?rv7) rfl rfl (by kernel_rfl) (by kernel_rfl) (by kernel_rfl) (fun _ _ _ h => h) (by rfl) ?ry7 (by assumption) ?rr7
  case ry7 => (intro wz hSw; (try dsimp only at hSw); go_simp; (try simp only [ge_iff_le, gt_iff_lt, g6, decide_false, decide_true, if_true, if_false]); try with_reducible rfl)
  (try simp only [Act.put, List.setIfInBounds_toArray, List.set_cons_zero, List.set_cons_succ])
  refine reg_on (i := 7) (d := 21) (v := ?rv8) rfl rfl (by kernel_rfl) (by kernel_rfl) (by kernel_rfl) (fun _ _ _ h => h) (by rfl) ?ry8 (by assumption) ?rr8
  case ry8 => (intro wz hSw; (try dsimp only at hSw); go_simp; (try simp only [ge_iff_le, gt_iff_lt, g7, decide_false, decide_true, if_true, if_false]); try with_reducible rfl)
  (try simp only [Act.put, List.setIfInBounds_toArray, List.set_cons_zero, List.set_cons_succ])
  refine reg_on (i := 8) (d := 22) (v := ?rv9) rfl rfl (by kernel_rfl) (by kernel_rfl) (by kernel_rfl) (fun _ _ _ h => h) (by rfl) ?ry9 (by assumption) ?rr9
  case ry9 => (intro wz hSw; (try dsimp only at hSw); go_simp; try with_reducible rfl)
  (try simp only [Act.put, List.setIfInBounds_toArray, List.set_cons_zero, List.set_cons_succ])
  refine reg_on (i := 9) (d := 23) (v := ?rv10) rfl rfl (by kernel_rfl) (by kernel_rfl) (by kernel_rfl) (fun _ _ _ h => h) (by rfl) ?ry10 (by assumption) ?rr10
  case ry10 => (intro wz hSw; (try dsimp only at hSw); go_simp; try with_reducible rfl)
  (try simp only [Act.put, List.setIfInBounds_toArray, List.set_cons_zero, List.set_cons_succ])
  refine reg_on (i := 10) (d := 24) (v := ?rv11) rfl rfl (by kernel_rfl) (by kernel_rfl) (by kernel_rfl) (fun _ _ _ h => h) (by rfl) ?ry11 (by assumption) ?rr11
  case ry11 => (intro wz hSw; (try dsimp only at hSw); go_simp; try with_reducible rfl)
  (try simp only [Act.put, List.setIfInBounds_toArray, List.set_cons_zero, List.set_cons_succ])
  refine reg_on (i := 11) (d := 25) (v := ?rv12) rfl rfl (by kernel_rfl) (by kernel_rfl) (by kernel_rfl) (fun _ _ _ h => h) (by rfl) ?ry12 (by assumption) ?rr12
  case ry12 => (intro wz hSw; (try dsimp only at hSw); go_simp; (try simp only [ge_iff_le, gt_iff_lt, g11, decide_false, decide_true, if_true, if_false]); try with_reducible rfl)
  (try simp only [Act.put, List.setIfInBounds_toArray, List.set_cons_zero, List.set_cons_succ])
  refine reg_on (i := 12) (d := 26) (v := ?rv13) rfl rfl (by kernel_rfl) (by kernel_rfl) (by kernel_rfl) (fun _ _ _ h => h) (by rfl) ?ry13 (by assumption) ?rr13
  case ry13 => (intro wz hSw; (try dsimp only at hSw); go_simp; (try simp only [ge_iff_le, gt_iff_lt, g12, decide_false, decide_true, if_true, if_false]); try with_reducible rfl)
  (try simp only [Act.put, List.setIfInBounds_toArray, List.set_cons_zero, List.set_cons_succ])
  refine reg_on (i := 13) (d := 27) (v := ?rv14) rfl rfl (by kernel_rfl) (by kernel_rfl) (by kernel_rfl) (fun _ _ _ h => h) (by rfl) ?ry14 (by assumption) ?rr14
  case ry14 => (intro wz hSw; (try dsimp only at hSw); go_simp; (try simp only [ge_iff_le, gt_iff_lt, g13, decide_false, decide_true, if_true, if_false]); try with_reducible rfl)
  (try simp only [Act.put, List.setIfInBounds_toArray, List.set_cons_zero, List.set_cons_succ])
  refine reg_on (i := 14) (d := 28) (v := ?rv15) rfl rfl (by kernel_rfl) (by kernel_rfl) (by kernel_rfl) (fun _ _ _ h => h) (by rfl) ?ry15 (by assumption) ?rr15
  case ry15 => (intro wz hSw; (try dsimp only at hSw); go_simp; try with_reducible rfl)
  (try simp only [Act.put, List.setIfInBounds_toArray, List.set_cons_zero, List.set_cons_succ])
  refine wpAnyH_ready (rs := [15]) (by kernel_rfl) (by simp) ?_
  refine AllReadyH.cons rfl (fun K hK => ?_) AllReadyH.nil
  go_simp
  refine hK.out _ _ ?_ (fun hHeld => ?_)
  · ((try dsimp only); (repeat' apply And.intro); all_goals ((repeat (first | (with_reducible refine cell_drew ?_) | (with_reducible refine cell_drewN _ ?_) | ((with_reducible refine cell_alloc ?_ ?_); · first | omega | (simp; done) | (simp; omega) | assumption) | ((with_reducible refine cell_set ?_ ?_); · first | (intro e; injection e; omega) | (intro e; simp at e; done) | (intro e; simp at e; omega)))); first | assumption | (simp; done)))
  clear hK K
  (try simp only [Act.put, List.setIfInBounds_toArray, List.set_cons_zero, List.set_cons_succ])
  refine wpAnyH_done (by kernel_rfl) ?_ _
  go_wp2
  go_ret
  refine ⟨_, _, rfl, ?_, by (repeat (first | (with_reducible exact Below.refl _ _) | (with_reducible assumption) | (with_reducible refine Below.drew ?_) | ((with_reducible refine balloc ?_ _ ?_); · (first | (simp; done) | (simp; omega) | omega)) | ((with_reducible refine bset ?_ _ ?_); · (first | (simp; done) | (simp; omega) | omega)) | (with_reducible refine bdrewN _ ?_) | ((with_reducible refine bcall ?_ (by assumption) ?_); · (first | (simp; done) | (simp; omega) | omega))))⟩
  have h := own_base (B' := w.heap.size) ST.out (by simp)
  have e5 : (strCells ss).set y (.string (s.extract 0 x ++ ⟨#[46]⟩ ++ s.extract (x + 1) W)) = strCells (tabF W n (bite (tq ss) y x)) := by
    rw [set_strCells, HE.out]
    congr 1
    have e := HS.out
    generalize tq ss = G at e ⊢
    rw [e]
    exact tabF_set hy
  rw [e5] at h
  exact h

set_option maxRecDepth 100000 in
set_option maxHeartbeats 2000000 in
theorem mlBite_any (A : Option Addr) (n c W x y : Nat) (ss : List ByteArray) (w : World) (hr : Rd w 1 A n (strCells ss)) (hb : TB ss W n) (hx : x < W) (hy : y < n) :
    Calls Tryd.prog 48 #[.slice A n c, .int .i64 x, .int .i64 y] w fun e w' => ∃ A' c', e = .returned (.slice A' n c') ∧ w'.ownsRow w.heap.size 9 1 (.slice A' n c') n (strCells (tabF W n (bite (tq ss) y x))) ∧ Below w.heap.size w w' := by
  have hn1 := hb.h1
  have hn10 := hb.h10
  have hW1 := hb.w1
  have hW10 := hb.w10
  obtain ⟨b, o, rfl, hbl, s00, p00, hs00⟩ := hr.tab0 hb
  have hs00' : s00.size = W := hs00.out
  have HI := Lib.hid (mlIs_any _ n c W ss w hr hb)
  obtain ⟨M, hM⟩ : ∃ M, Hid (M = n * W) := ⟨_, rfl⟩
  have hyx : y * W + x < M := by rw [hM.out]; exact lin_lt hy hx
  have hM100 : M ≤ 100 := by rw [hM.out]; exact Nat.mul_le_mul hn10 hW10
  rw [← hM.out] at HI
  have HY : Hid ((y : Int) * (W : Int) = ((y * W : Nat) : Int)) := (Int.natCast_mul y W).symm
  obtain ⟨q, hq⟩ : ∃ q : Nat, Hid (q = y * W) := ⟨_, rfl⟩
  rw [← hq.out] at hyx HY
  have hqi : (y : Int) * (W : Int) = (q : Int) := HY.out
  clear HY
  go_enter Tryd.func48, Tryd.ntmps48
  go_wp2_with fail
  refine HI.out.mono ?_; rintro e w1 ⟨A1, c1, rfl, own1, hb1⟩
  have s1 := hb1.size
  obtain ⟨g, rfl, hg1, hg2⟩ := own_at own1 (by omega)
  have p1 : w1.cell? ⟨b, o, none⟩ = some (.string s00) := (hb1.cell (p := ⟨b, o, none⟩) hbl).trans p00
  have a0 := own1.cellAt (q + x) (by omega)
  have hlen : q + x < (boolCells (isF W M (tq ss))).length := by rw [length_boolCells, length_isF]; exact hyx
  rw [List.getElem?_eq_getElem hlen] at a0
  have f0 := own1.frozenAt (q + x)
  have st := own1.stored (q + x) (.bool false)
  have hcap := own_capT own1
  have hset : (boolCells (isF W M (tq ss))).set (q + x) (.bool false) = boolCells (isF W M (bite (tq ss) y x)) := by rw [set_boolCells, hq.out, isF_set hx]
  rw [hset] at st
  have ST := Lib.hid st.1
  clear st own1 hset
  generalize (boolCells (isF W M (tq ss)))[q + x] = v0 at a0
  go_wp2_with fail
  have bw2 : Below w.heap.size w (w1.setCell ⟨g, q + x, none⟩ (.bool false)) := bset hg1 _ hb1
  have sw2 := bw2.size
  refine (mlOf_any _ M c1 W n (bite (tq ss) y x) _ hM.out (Rd.of_own ST.out) hcap hW1 hW10 hn1 hn10).mono ?_; rintro e w2 ⟨A2, c2, rfl, own2, hb2⟩
  go_wp2
  go_ret
  exact ⟨A2, c2, rfl, own_base own2 sw2, bw2.trans (hb2.mono sw2)⟩

/-- the tablet without a square, or nothing -/
def biteR (ss : List ByteArray) (x y : Int) : List ByteArray := if sqOk ss x y then tabF (tabW ss) ss.length (bite (tq ss) y.toNat x.toNat) else []
theorem biteR_no {ss : List ByteArray} {x y : Int} (h : sqOk ss x y = false) : biteR ss x y = [] := by simp [biteR, h]
theorem biteR_yes {ss : List ByteArray} {x y : Nat} {W n : Nat} (hb : TB ss W n) (h : sqOk ss x y = true) : biteR ss x y = tabF W n (bite (tq ss) y x) := by simp [biteR, h, hb.headW, hb.len]
theorem length_biteR (ss : List ByteArray) (x y : Int) : (biteR ss x y).length ≤ 10 := by
  unfold biteR
  split
  · rename_i h
    simp only [sqOk, Bool.and_eq_true] at h
    rw [length_tabF]
    exact (TB.of h.1).h10
  · simp

set_option maxHeartbeats 1000000 in
theorem sBiteSquare_any (A : Option Addr) (n c : Nat) (ss : List ByteArray) (x y : Int) (w : World) (hr : Rd w 1 A n (strCells ss)) (hsz : ∀ s ∈ ss, s.size ≤ 9223372036854775807) :
    Calls Tryd.prog 22 #[.slice A n c, .int .i64 x, .int .i64 y] w fun e w' => ∃ A' n' c', e = .returned (.tuple #[.slice A' n' c', .bool (sqOk ss x y)]) ∧ w'.ownsRow w.heap.size 9 1 (.slice A' n' c') n' (strCells (biteR ss x y)) ∧ Below w.heap.size w w' := by
  have HG := Lib.hid (mlSquare_any A n c ss x y w hr hsz)
  clear hsz
  cases hB : sqOk ss x y
  · rw [hB] at HG
    rw [biteR_no hB]
    go_enter Tryd.func22, Tryd.ntmps22
    go_wp2_with fail
    refine HG.out.mono ?_; rintro e w1 ⟨rfl, rfl⟩
    go_wp2
    go_ret2
    exact ⟨none, 0, 0, rfl, World.ownsRow_nil _ _ _ _, Below.refl _ _⟩
  · rw [hB] at HG
    have hB2 := hB
    simp only [sqOk, Bool.and_eq_true] at hB2
    have hb := TB.of hB2.1
    rw [hr.slen] at hb
    obtain ⟨i, j, rfl, rfl, hi, hj, _⟩ := hasQ_nat hb hB2.2
    rw [biteR_yes hb hB]
    have HO := Lib.hid (mlBite_any A n c _ i j ss w hr hb hi hj)
    clear hB hB2
    go_enter Tryd.func22, Tryd.ntmps22
    go_wp2_with fail
    refine HG.out.mono ?_; rintro e w1 ⟨rfl, rfl⟩
    go_wp2_with fail
    refine HO.out.mono ?_; rintro e w1 ⟨A1, c1, rfl, own1, hb1⟩
    go_wp2
    go_ret2
    exact ⟨A1, n, c1, rfl, own1, hb1⟩

set_option maxHeartbeats 1000000 in
theorem biteSquare_any (A : Option Addr) (n c : Nat) (ss : List ByteArray) (x y : Int) (w : World) (hr : Rd w 1 A n (strCells ss)) (hsz : ∀ s ∈ ss, s.size ≤ 9223372036854775807) :
    Calls Tryd.prog 23 #[.slice A n c, .int .i64 x, .int .i64 y] w fun e w' => ∃ A' n' c', e = .returned (.tuple #[.slice A' n' c', .bool (sqOk ss x y)]) ∧ w'.ownsRow w.heap.size 9 1 (.slice A' n' c') n' (strCells (biteR ss x y)) ∧ Below w.heap.size w w' := by
  have HG := Lib.hid (isTablet_any A n c ss w hr hsz)
  clear hsz
  cases hT : tabB ss
  · rw [hT] at HG
    have hB := sqOk_no (x := x) (y := y) hT
    rw [biteR_no hB, hB]
    go_enter Tryd.func23, Tryd.ntmps23
    go_wp2_with (go_at_call 49; refine HG.out.mono ?_; rintro e w1 ⟨rfl, hb1⟩)
    go_wp2
    go_ret2
    exact ⟨none, 0, 0, rfl, World.ownsRow_nil _ _ _ _, hb1⟩
  · rw [hT] at HG
    have hb := TB.of hT
    rw [hr.slen] at hb
    have HA := Lib.hid (fun wx h => hasSquare_any A n c _ ss x y wx h hb)
    have hok : sqOk ss x y = hasQ ss x y := by simp [sqOk, hT]
    cases hB : hasQ ss x y
    · rw [hB] at HA hok
      rw [biteR_no hok, hok]
      go_enter Tryd.func23, Tryd.ntmps23
      go_wp2_with (go_at_call 49; refine HG.out.mono ?_; rintro e w1 ⟨rfl, hb1⟩; have s1 := hb1.size)
      go_wp2_with (go_at_call 50; refine (HA.out _ (hr.later hb1 (Nat.le_refl _))).mono ?_; rintro e w2 ⟨rfl, hb2⟩)
      go_wp2
      go_ret2
      exact ⟨none, 0, 0, rfl, World.ownsRow_nil _ _ _ _, hb1.trans (hb2.mono s1)⟩
    · rw [hB] at HA hok
      obtain ⟨i, j, rfl, rfl, hi, hj, _⟩ := hasQ_nat hb hB
      have HO := Lib.hid (fun wx h => biteSq_any A n c _ i j ss wx h hb hi hj)
      rw [biteR_yes hb hok, hok]
      go_enter Tryd.func23, Tryd.ntmps23
      go_wp2_with (go_at_call 49; refine HG.out.mono ?_; rintro e w1 ⟨rfl, hb1⟩; have s1 := hb1.size)
      go_wp2_with (go_at_call 50; refine (HA.out _ (hr.later hb1 (Nat.le_refl _))).mono ?_; rintro e w2 ⟨rfl, hb2⟩; have s2 := hb2.size)
      have hb3 := hb1.trans (hb2.mono s1)
      go_wp2_with fail
      refine (HO.out _ (hr.later hb3 (Nat.le_refl _))).mono ?_; rintro e w3 ⟨A3, c3, rfl, own3, hb4⟩
      go_wp2
      go_ret2
      exact ⟨A3, n, c3, rfl, own_base own3 (by omega), hb3.trans (hb4.mono (by omega))⟩

end Go.Proofs.YtieiakljholkaabDoor
