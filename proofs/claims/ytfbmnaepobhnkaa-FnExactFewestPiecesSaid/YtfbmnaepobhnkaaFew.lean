/-
  Contracts: FewestPieces of the model and of the program.
-/
import Derived.Test.YtfbmnaepobhnkaaFewS
import Derived.Test.YtfbmnaepobhnkaaFewB
import Derived.Test.YtfbmnaepobhnkaaChg
import Derived.StillTailTactics
namespace Go.Proofs.Ytfbmnaepobhnkaa
open Go.RowKit
set_option linter.unusedVariables false

def fewOk (ss : List ByteArray) (most : Int) : Bool := nutsB ss && decide (0 ≤ most)
def fewV (ss : List ByteArray) (most : Int) : Int := if fewOk ss most then ((few ss most 0 0 (nutW ss) ss.length : Nat) : Int) else 0
theorem few_cases {p : Prop} (ss : List ByteArray) (n : Nat) (most : Int) (hl : ss.length = n)
    (h1 : nutsB ss = false → fewOk ss most = false → p)
    (h2 : NB ss (nutW ss) n → nutsB ss = true → most < 0 → fewOk ss most = false → p)
    (h3 : NB ss (nutW ss) n → nutsB ss = true → 0 ≤ most → fewOk ss most = true → p) : p := by
  cases hB : nutsB ss
  · exact h1 hB (by simp [fewOk, hB])
  · have hb := NB.of hB
    rw [hl] at hb
    by_cases h : 0 ≤ most
    · exact h3 hb hB h (by simp [fewOk, hB, h])
    · exact h2 hb hB (by omega) (by simp [fewOk, h])
theorem int_infoF : (Try.prog.info? 3).map (fun i => (i.zero, i.size, i.bytes)) = some (some (.int .i64 0), 1, 8) := by kernel_rfl
abbrev okF (v : Int) (b : Bool) : Value := .tuple #[.int .i64 v, .bool b]

theorem rep_new (w0 w : World) (hw : w0.heap.size ≤ w.heap.size) (K : Nat) (hK : K ≤ 10000) : ∃ wm, (Instr.makeSlice 41 (.int .i64 (K : Int)) (.int .i64 (K : Int))).run Try.prog w = .ok (.slice (some ⟨w.heap.size, 0, none⟩) K K) wm
    ∧ wm.ownsRow w0.heap.size 3 1 (.slice (some ⟨w.heap.size, 0, none⟩) K K) K (List.replicate K (.int .i64 0)) ∧ w.grownBy wm none := by
  obtain ⟨i1, hi1, hy0, hy1, hy2⟩ := info_parts int_infoF
  obtain ⟨wm, h1, h2, h3⟩ := run_make_full (P := Try.prog) w w0.heap.size 41 3 i1 (.int .i64 0) 1 Try.underlying41 hi1 hy0 hy1 .i64 .i64 K (by rw [hy2]; omega) (by simp only [maxLen]; omega) hw
  refine ⟨wm, h1, ?_, h3⟩
  rw [show (Value.int .i64 0).cells = #[Value.int .i64 0] from rfl, toList_madeCells_one, Nat.mul_one] at h2
  exact h2
theorem told_new (ss : List ByteArray) (most : Int) (W n : Nat) (w0 w : World) (hW : W ≤ 8) (hn : n ≤ 8) (hw : w0.heap.size ≤ w.heap.size) : ∃ wm, (Instr.makeSlice 41 (.int .i64 6561) (.int .i64 6561)).run Try.prog w = .ok (.slice (some ⟨w.heap.size, 0, none⟩) 6561 6561) wm
    ∧ Told ss most W n w0 wm w.heap.size ∧ w.grownBy wm none := by
  obtain ⟨wm, h1, h2, h3⟩ := rep_new w0 w hw 6561 (by omega)
  refine ⟨wm, h1, ⟨_, h2, fun x y a b q1 q2 q3 q4 => ⟨0, ?_, .inl rfl⟩⟩, h3⟩
  rw [List.getElem?_replicate, if_pos (atF_lt (by omega) (by omega) (by omega) (by omega))]
  rfl

set_option maxRecDepth 100000 in
set_option maxHeartbeats 4000000 in
theorem sFewestPieces_any (A : Option Addr) (n c : Nat) (ss : List ByteArray) (most : Int) (w : World) (hr : Rd w 1 A n (strCells ss)) :
    Calls Try.prog 20 #[.slice A n c, .int .i64 most] w fun e w' => e = .returned (okF (fewV ss most) (fewOk ss most)) ∧ Below w.heap.size w w' := by
  refine few_cases ss n most hr.slen ?_ ?_ ?_
  · intro hB hk
    rw [show fewV ss most = 0 by simp [fewV, hk], hk]
    clear hk
    go_enter Try.func20, Try.ntmps20
    go_wp2_with fail
    refine (ntGood_any _ _ _ _ _ hr).mono ?_; rintro e w1 ⟨rfl, rfl⟩
    rw [hB]
    go_wp2
    refine bodyPost_ret (v := okF 0 false) (by simp [results, Try.results20, go_sem]) rfl ⟨rfl, Below.refl _ _⟩
  · intro hb hB hm hk
    rw [show fewV ss most = 0 by simp [fewV, hk], hk]
    clear hk
    have hmm : decide (most < 0) = true := by simpa using hm
    go_enter Try.func20, Try.ntmps20
    go_wp2_with fail
    refine (ntGood_any _ _ _ _ _ hr).mono ?_; rintro e w1 ⟨rfl, rfl⟩
    rw [hB]
    go_wp2
    refine bodyPost_ret (v := okF 0 false) (by simp [results, Try.results20, go_sem]) rfl ⟨rfl, Below.refl _ _⟩
  · intro hb hB hm hk
    have hl := hr.slen
    rw [show fewV ss most = (few ss most 0 0 (nutW ss) n : Nat) by simp [fewV, hk, hl], hk]
    clear hk hl
    generalize hWq : nutW ss = W at *
    have HWQ := Lib.hid hWq
    clear hWq
    have hmm : decide (most < 0) = false := by simpa using hm
    obtain ⟨B, o, rfl, hbl, s0, p0, hs0, hd0⟩ := hr.nut0 hb
    have hs := hs0.out
    have hn8 := hb.h8
    have hn1 := hb.h1
    have hW8 := hb.w8
    have hW1 := hb.w1
    have q00 : 0 < n := by omega
    have q0 : (0 : Int) < (n : Int) := by omega
    have HR := Lib.hid hr
    go_enter Try.func20, Try.ntmps20
    go_wp2_with fail
    refine (ntGood_any _ _ _ _ _ hr).mono ?_; rintro e w1 ⟨rfl, rfl⟩
    rw [hB]
    go_wp2
    obtain ⟨wm, hrunm, hT0, growm⟩ := told_new ss most W n w w.drew hW8 hn8 (Nat.le_refl _)
    have hBm : Below w.heap.size w wm := ((Below.refl w.heap.size w).drew).grown growm (Nat.le_refl _) (fun k hk => by cases hk)
    replace hT0 : Told ss most W n w wm w.heap.size := hT0
    have pm : wm.cell? ⟨B, o, none⟩ = some (.string s0) := (hBm.cell (p := ⟨B, o, none⟩) hbl).trans p0
    have HT0 := Lib.hid hT0
    have HBM := Lib.hid hBm
    clear growm hT0 hBm hr hs
    refine wp_region_held_drew (S := (fun w' => w'.cell? ⟨B, o, none⟩ = some (.string s0))) (by kernel_rfl) ?_ (fun hHeld => ?_)
    · ((try dsimp only); (repeat' apply And.intro); all_goals ((repeat (first | (with_reducible refine cell_drew ?_) | (with_reducible refine cell_drewN _ ?_) | ((with_reducible refine cell_alloc ?_ ?_); · first | omega | (simp; done) | (simp; omega) | assumption) | ((with_reducible refine cell_set ?_ ?_); · first | (intro e; injection e; omega) | (intro e; simp at e; done) | (intro e; simp at e; omega)))); first | assumption | (simp; done)))
    refine reg_on (i := 0) (d := 13) (v := ?rv1) rfl rfl (by kernel_rfl) (by kernel_rfl) (by kernel_rfl) (fun _ _ _ h => h) (by rfl) ?ry1 (by assumption) ?rr1
    case ry1 => (intro wz hSw; (try dsimp only at hSw); go_simp; try with_reducible rfl)
    (try simp only [Act.put, List.setIfInBounds_toArray, List.set_cons_zero, List.set_cons_succ])
    refine reg_on (i := 1) (d := 14) (v := ?rv2) rfl rfl (by kernel_rfl) (by kernel_rfl) (by kernel_rfl) (fun _ _ _ h => h) (by rfl) ?ry2 (by assumption) ?rr2
    case ry2 => (intro wz hSw; (try dsimp only at hSw); go_simp; try with_reducible rfl)
    (try simp only [Act.put, List.setIfInBounds_toArray, List.set_cons_zero, List.set_cons_succ])
    refine reg_on (i := 2) (d := 15) (v := ?rv3) rfl rfl (by kernel_rfl) (by kernel_rfl) (by kernel_rfl) (fun _ _ _ h => h) (by rfl) ?ry3 (by assumption) ?rr3
    case ry3 => (intro wz hSw; (try dsimp only at hSw); go_simp; try with_reducible rfl)
    (try simp only [Act.put, List.setIfInBounds_toArray, List.set_cons_zero, List.set_cons_succ])
    refine reg_on (i := 3) (d := 16) (v := ?rv4) rfl rfl (by kernel_rfl) (by kernel_rfl) (by kernel_rfl) (fun _ _ _ h => h) (by rfl) ?ry4 (by assumption) ?rr4
    case ry4 => (intro wz hSw; (try dsimp only at hSw); go_simp; try with_reducible rfl)
    (try simp only [Act.put, List.setIfInBounds_toArray, List.set_cons_zero, List.set_cons_succ])
    refine reg_on (i := 4) (d := 17) (v := ?rv5) rfl rfl (by kernel_rfl) (by kernel_rfl) (by kernel_rfl) (fun _ _ _ h => h) (by rfl) ?ry5 (by assumption) ?rr5
    case ry5 => (intro wz hSw; (try dsimp only at hSw); go_simp; try with_reducible rfl)
    (try simp only [Act.put, List.setIfInBounds_toArray, List.set_cons_zero, List.set_cons_succ])
    refine reg_on (i := 5) (d := 18) (v := ?rv6) rfl rfl (by kernel_rfl) (by kernel_rfl) (by kernel_rfl) (fun _ _ _ h => h) (by rfl) ?ry6 (by assumption) ?rr6
    case ry6 => (intro wz hSw; (try dsimp only at hSw); go_simp; try with_reducible rfl)
    (try simp only [Act.put, List.setIfInBounds_toArray, List.set_cons_zero, List.set_cons_succ])
    refine reg_on (i := 6) (d := 19) (v := ?rv7) rfl rfl (by kernel_rfl) (by kernel_rfl) (by kernel_rfl) (fun _ _ _ h => h) (by rfl) ?ry7 (by assumption) ?rr7
    case ry7 => (intro wz hSw; (try dsimp only at hSw); go_simp; try with_reducible rfl)
    (try simp only [Act.put, List.setIfInBounds_toArray, List.set_cons_zero, List.set_cons_succ])
    refine reg_on (i := 7) (d := 20) (v := ?rv8) rfl rfl (by kernel_rfl) (by kernel_rfl) (by kernel_rfl) (fun _ _ _ h => h) (by rfl) ?ry8 (by assumption) ?rr8
    case ry8 => (intro wz hSw; (try dsimp only at hSw); go_simp; try with_reducible rfl)
    (try simp only [Act.put, List.setIfInBounds_toArray, List.set_cons_zero, List.set_cons_succ])
    refine wpAnyH_ready (rs := [8]) (by kernel_rfl) (by simp) ?_
    refine AllReadyH.cons rfl (fun K hK => ?_) AllReadyH.nil
    go_simp
    refine hK.out _ _ ?_ (fun hHeld => ?_)
    · ((try dsimp only); (repeat' apply And.intro); all_goals ((repeat (first | (with_reducible refine cell_drew ?_) | (with_reducible refine cell_drewN _ ?_) | ((with_reducible refine cell_alloc ?_ ?_); · first | omega | (simp; done) | (simp; omega) | assumption) | ((with_reducible refine cell_set ?_ ?_); · first | (intro e; injection e; omega) | (intro e; simp at e; done) | (intro e; simp at e; omega)))); first | assumption | (simp; done)))
    clear hK K
    (try simp only [Act.put, List.setIfInBounds_toArray, List.set_cons_zero, List.set_cons_succ])
    refine wpAnyH_ready (rs := [9]) (by kernel_rfl) (by simp) ?_
    refine AllReadyH.cons rfl (fun K hK => ?_) AllReadyH.nil
    go_simp
    go_at_call 42; refine (ntFew_any _ n c W w.heap.size ss most w HR.out hb (W + n) 0 0 W n _ _ _ _ _ (Nat.le_refl _) rfl rfl (by have := hs0.out; simp; omega) (by simp) hW1 hn1 (by omega) (by omega) HT0.out HBM.out).mono ?_; rintro e w2 ⟨rfl, hT2, hB2⟩; have p2 : w2.cell? ⟨B, o, none⟩ = some (.string s0) := (hB2.cell (p := ⟨B, o, none⟩) hbl).trans p0
    refine hK.out _ _ ?_ (fun hHeld => ?_)
    · ((try dsimp only); (repeat' apply And.intro); all_goals ((repeat (first | (with_reducible refine cell_drew ?_) | (with_reducible refine cell_drewN _ ?_) | ((with_reducible refine cell_alloc ?_ ?_); · first | omega | (simp; done) | (simp; omega) | assumption) | ((with_reducible refine cell_set ?_ ?_); · first | (intro e; injection e; omega) | (intro e; simp at e; done) | (intro e; simp at e; omega)))); first | assumption | (simp; done)))
    clear hK K
    (try simp only [Act.put, List.setIfInBounds_toArray, List.set_cons_zero, List.set_cons_succ])
    refine reg_on (i := 10) (d := 4) (v := ?rv11) rfl rfl (by kernel_rfl) (by kernel_rfl) (by kernel_rfl) (fun _ _ _ h => h) (by rfl) ?ry11 (by assumption) ?rr11
    case ry11 => (intro wz hSw; (try dsimp only at hSw); go_simp; try with_reducible rfl)
    (try simp only [Act.put, List.setIfInBounds_toArray, List.set_cons_zero, List.set_cons_succ])
    refine reg_on (i := 11) (d := 5) (v := ?rv12) rfl rfl (by kernel_rfl) (by kernel_rfl) (by kernel_rfl) (fun _ _ _ h => h) (by rfl) ?ry12 (by assumption) ?rr12
    case ry12 => (intro wz hSw; (try dsimp only at hSw); go_simp; try with_reducible rfl)
    (try simp only [Act.put, List.setIfInBounds_toArray, List.set_cons_zero, List.set_cons_succ])
    refine wpAnyH_done (by kernel_rfl) ?_ _
    go_wp2
    refine bodyPost_ret (v := okF (few ss most 0 0 W n : Nat) true) (by simp [results, Try.results20, go_sem]) rfl ⟨rfl, hB2⟩

/-- what holds when the first parts are done -/
def FewRel (ss : List ByteArray) (most : Int) (W n N gm : Nat) (w4 : World) (i : Value) (wr : World) : Prop :=
  ∃ (k m : Nat) (M : Nat → Nat → Nat → Nat → Int), k ≤ N ∧ i = .int .i64 k ∧ m ≤ 2 * k ∧ MapQ wr gm m M ∧ Hid (∀ x y a b : Nat, (((x : Int), (y : Int), (a : Int), (b : Int)) : Quad) ∈ (barParts W n W).take k → M x y a b = (few ss most x y a b : Nat)) ∧ Chg (fun q => q = gm) w4 wr

set_option maxRecDepth 100000 in
set_option maxHeartbeats 8000000 in
theorem fewestPieces_any (A : Option Addr) (n c : Nat) (ss : List ByteArray) (most : Int) (w : World) (hr : Rd w 1 A n (strCells ss)) :
    Calls Try.prog 21 #[.slice A n c, .int .i64 most] w fun e w' => e = .returned (okF (fewV ss most) (fewOk ss most)) ∧ Below w.heap.size w w' := by
  refine few_cases ss n most hr.slen ?_ ?_ ?_
  · intro hB hk
    rw [show fewV ss most = 0 by simp [fewV, hk], hk]
    clear hk
    go_enter Try.func21, Try.ntmps21
    go_wp2_with fail
    refine (areNuts_any _ _ _ _ _ hr).mono ?_; rintro e w1 ⟨rfl, rfl⟩
    rw [hB]
    go_wp2
    refine bodyPost_ret (v := okF 0 false) (by simp [results, Try.results21, go_sem]) rfl ⟨rfl, Below.refl _ _⟩
  · intro hb hB hm hk
    rw [show fewV ss most = 0 by simp [fewV, hk], hk]
    clear hk
    have hmm : decide (most < 0) = true := by simpa using hm
    go_enter Try.func21, Try.ntmps21
    go_wp2_with fail
    refine (areNuts_any _ _ _ _ _ hr).mono ?_; rintro e w1 ⟨rfl, rfl⟩
    rw [hB]
    go_wp2
    refine bodyPost_ret (v := okF 0 false) (by simp [results, Try.results21, go_sem]) rfl ⟨rfl, Below.refl _ _⟩
  · intro hb hB hm hk
    have hl := hr.slen
    rw [show fewV ss most = (few ss most 0 0 (nutW ss) n : Nat) by simp [fewV, hk, hl], hk]
    clear hk hl
    generalize nutW ss = W at *
    have hmm : decide (most < 0) = false := by simpa using hm
    have hn8 := hb.h8
    have hn1 := hb.h1
    have hW8 := hb.w8
    have hW1 := hb.w1
    have hmk := @run_makeMap Try.prog
    have zc : zc_64 = cornA ss W 0 0 := by rw [cornA_zero ss W]; kernel_rfl
    have HZ := Lib.hid zc
    clear zc
    have HR := Lib.hid hr
    go_enter Try.func21, Try.ntmps21
    go_wp2_with fail
    refine (areNuts_any _ _ _ _ _ hr).mono ?_; rintro e w1 ⟨rfl, rfl⟩
    rw [hB]
    go_wp2_with fail
    refine (barOf_any _ _ _ W ss _ hr hb).mono ?_; rintro e w1 ⟨rfl, hb1⟩
    have bl1 : Below w.heap.size w (w1.alloc (.cells #[.int .i64 W, .int .i64 n] 26)) := hb1.alloc hb1.size _
    have s1 := hb1.size
    clear hr
    go_wp2_with fail
    refine (corners_any _ _ _ W ss _ (HR.out.later bl1 (Nat.le_refl _)) hb).mono ?_; rintro e w2 ⟨rfl, hb2⟩
    have s2 := hb2.size
    simp at s2
    have bl2 : Below w.heap.size w w2 := bcall (by simp; omega) hb2 bl1
    have c0 : w2.cell? ⟨w1.heap.size, 0, none⟩ = some (.int .i64 W) := (hb2.cell (p := ⟨w1.heap.size, 0, none⟩) (by simp)).trans (by simp [go_sem])
    have c1 : w2.cell? ⟨w1.heap.size, 1, none⟩ = some (.int .i64 n) := (hb2.cell (p := ⟨w1.heap.size, 1, none⟩) (by simp)).trans (by simp [go_sem])
    clear hb2 hb1 bl1
    have hR0 := RowAt.new w2 zc_64
    have hzs : (zc_64).size = 81 := by kernel_rfl
    have bl3 : Below w.heap.size w ((w2.alloc (.cells zc_64 64)).setRow w2.heap.size (cornA ss W n 0)) := below_setRowN (bl2.alloc bl2.size _) bl2.size _
    have rw3 : RowAt ((w2.alloc (.cells zc_64 64)).setRow w2.heap.size (cornA ss W n 0)) w2.heap.size (cornA ss W n 0) := setRow_heap _ w2.heap.size _ (cornA ss W n 0) _ _ hR0
    have sz3 : ((w2.alloc (.cells zc_64 64)).setRow w2.heap.size (cornA ss W n 0)).heap.size = w2.heap.size + 1 := by simp [World.setRow]
    have hne : w1.heap.size < w2.heap.size := by omega
    have cb : ∀ q, ((w2.alloc (.cells zc_64 64)).setRow w2.heap.size (cornA ss W n 0)).cell? ⟨w1.heap.size, q, none⟩ = w2.cell? ⟨w1.heap.size, q, none⟩ := fun q => by
      rw [World.cell?_of_block (w := (w2.alloc (.cells zc_64 64))) (by rw [setRow_other _ _ _ _ (by show w1.heap.size ≠ w2.heap.size; omega)])]
      exact World.cell?_alloc_lt _ _ _ hne
    have d0 := (cb 0).trans c0
    have d1 := (cb 1).trans c1
    have h81 : (Try.prog.info? 64).map (·.size) = some (cornA ss W n 0).size := by rw [size_cornA]; kernel_rfl
    have ho81 : (zc_64).size = (cornA ss W n 0).size := by rw [size_cornA, hzs]
    have H81 := Lib.hid h81
    have HO81 := Lib.hid ho81
    have HR0 := Lib.hid hR0
    have hW3 : w1.heap.size < ((w2.alloc (.cells zc_64 64)).setRow w2.heap.size (cornA ss W n 0)).heap.size := by omega
    have SZ3 := Lib.hid sz3
    clear hzs cb h81 ho81 hR0 c0 c1 bl2 sz3
    have hzf := fun wx => zero_64 wx; have hze := zc_64_ne
    go_wp2_with (first | (refine wpList_store_row rfl 64 (.tmp 7) (.tmp 21) rfl w2.heap.size (cornA ss W n 0) rfl rfl _ _ HR0.out H81.out HO81.out (oneCell_cornA _ _ _ _) ?_; clear H81 HO81 HR0; generalize (w2.alloc (.cells zc_64 64)).setRow w2.heap.size (cornA ss W n 0) = W3 at *))
    have sz3 := SZ3.out
    have hS3 : w2.heap.size < W3.heap.size := by omega
    have hw3 : w.heap.size ≤ W3.heap.size := bl3.size
    have bl4 : Below w.heap.size w (W3.alloc (.map #[] 0)) := bl3.alloc hw3 _
    refine (allParts_any W n _ hW1 hW8 hn1 hn8).mono ?_; rintro e w4 ⟨A4, N, c4, rfl, own4, hb4⟩
    have s4 := hb4.size
    simp at s4
    have m4 : MapQ w4 W3.heap.size 0 (fun _ _ _ _ => 0) := (MapQ.made W3 (fun _ _ _ _ => 0) (fun _ _ _ _ => rfl)).below hb4 (by simp)
    have r4 : RowAt w4 w2.heap.size (cornA ss W n 0) := (rw3.alloc _).below hb4 (by simp; omega)
    have e0 : w4.cell? ⟨w1.heap.size, 0, none⟩ = some (.int .i64 W) := (hb4.cell (p := ⟨w1.heap.size, 0, none⟩) (by simp; omega)).trans ((World.cell?_alloc_lt _ _ _ hW3).trans d0)
    have e1 : w4.cell? ⟨w1.heap.size, 1, none⟩ = some (.int .i64 n) := (hb4.cell (p := ⟨w1.heap.size, 1, none⟩) (by simp; omega)).trans ((World.cell?_alloc_lt _ _ _ hW3).trans d1)
    have bl5 : Below w.heap.size w w4 := bcall bl4.size hb4 bl4
    have hA4 : ∀ b o, A4 = some ⟨b, o, none⟩ → ¬ b = W3.heap.size := by
      rintro b o rfl
      have h := (own4.lt b rfl).1
      simp at h
      omega
    have hN : (barParts W n W).length = N := by have := own4.1; rw [length_quadCells] at this; omega
    have hNb : N ≤ 4096 := by have := length_barParts W n W hW8 hn8; omega
    have RD4 := Lib.hid (Rd.of_own own4)
    have HN := Lib.hid hN
    have HM4 := Lib.hid m4
    have HR4 := Lib.hid r4
    have HE0 := Lib.hid e0
    have HE1 := Lib.hid e1
    have HB5 := Lib.hid bl5
    have HA4 := Lib.hid hA4
    have z1 : w1.heap.size < w4.heap.size := by omega
    have z2 : w2.heap.size < w4.heap.size := by omega
    have z3 : W3.heap.size < w4.heap.size := by omega
    have z1m : w1.heap.size ≠ W3.heap.size := by omega
    have z2m : w2.heap.size ≠ W3.heap.size := by omega
    have z4 : w.heap.size ≤ w4.heap.size := by omega
    have z5 : w.heap.size ≤ W3.heap.size := hw3
    clear m4 r4 e0 e1 bl5 hA4 hN own4 hb4 bl4 bl3 rw3 sz3 SZ3 hne d0 d1
    generalize w1.heap.size = gw at *
    generalize w2.heap.size = gs at *
    generalize W3.heap.size = gm at *
    clear hS3 hW3 s2 s4 hw3
    go_wp2
    go_loopw [26] (FewRel ss most W n N gm w4) (fun i _ => N - (intOf i).toNat)
    case atStart => exact ⟨0, 0, _, Nat.zero_le _, rfl, Nat.le_refl _, HM4.out, (fun x y a b h => by simp at h), Chg.refl _ _⟩
    case round =>
      clear HM4
      obtain ⟨k, m, M, hk, rfl, hm2, hM, hdone, hC⟩ := hrel
      have hrow := hC.block gs z2 z2m
      have hrow2 : RowAt wr gs (cornA ss W n 0) := hrow.trans HR4.out
      have e0 := hC.cell HE0.out z1m
      have e1 := hC.cell HE1.out z1m
      clear hrow
      by_cases hlt : k < N
      · obtain ⟨bb, o, rfl, hbl, hkx, p0, p1, p2, p3⟩ := (hC.rd RD4.out (fun b o e => HA4.out b o e)).quad hlt
        obtain ⟨x, y, a, b, hq, ha, hb', hxa, hyb⟩ := part_in hkx
        rw [hq] at p0 p1 p2 p3
        have hstep := few_step ss most x y a b ha hb'
        have hsub : ∀ x' y' a' b', SubP x y a b x' y' a' b' → M x' y' a' b' = (few ss most x' y' a' b' : Nat) := by
          rintro x' y' a' b' ⟨q1, q2, q3, q4, q5, q6, q7⟩
          exact hdone.out x' y' a' b' (part_before hkx hq q1 (by omega) q2 (by omega) q7)
        have hdone2 : ∀ (M' : Nat → Nat → Nat → Nat → Int), M' x y a b = (few ss most x y a b : Nat) → (∀ x' y' a' b', ¬ (x' = x ∧ y' = y ∧ a' = a ∧ b' = b) → M' x' y' a' b' = M x' y' a' b') → ∀ x' y' a' b' : Nat, (((x' : Int), (y' : Int), (a' : Int), (b' : Int)) : Quad) ∈ (barParts W n W).take (k + 1) → M' x' y' a' b' = (few ss most x' y' a' b' : Nat) := by
          intro M' h1 h2 x' y' a' b' hmem
          by_cases e : x' = x ∧ y' = y ∧ a' = a ∧ b' = b
          · obtain ⟨rfl, rfl, rfl, rfl⟩ := e; exact h1
          · rw [h2 x' y' a' b' e]
            rw [List.take_succ_eq_append_getElem hkx, hq] at hmem
            rcases List.mem_append.1 hmem with h | h
            · exact hdone.out x' y' a' b' h
            · exfalso
              have h3 := List.mem_singleton.1 h
              simp only [Prod.mk.injEq] at h3
              omega
        have hM1 := hM.alloc (.cells #[.int .i64 x, .int .i64 y, .int .i64 a, .int .i64 b] 70)
        obtain ⟨w8, hrun8, hM8, hg8⟩ := hM1.put (x := x) (y := y) (p := a) (q := b) (by omega) (by omega) (by omega) (by omega) (by omega) 1 (by decide)
        have hbx : ∀ (i : Nat) (v : Value), #[Value.int .i64 x, .int .i64 y, .int .i64 a, .int .i64 b][i]? = some v → (wr.alloc (.cells #[.int .i64 x, .int .i64 y, .int .i64 a, .int .i64 b] 70)).cell? ⟨wr.heap.size, i, none⟩ = some v := by
          intro i v h
          simp only [World.cell?, World.alloc, Array.getElem?_push_size]
          exact h
        have hlw := hM.lt
        have hnm : some wr.heap.size ≠ some gm := by intro h; injection h; omega
        have f0 := hg8.cell (a := ⟨wr.heap.size, 0, none⟩) (hbx 0 _ rfl) hnm
        have f1 := hg8.cell (a := ⟨wr.heap.size, 1, none⟩) (hbx 1 _ rfl) hnm
        have f2 := hg8.cell (a := ⟨wr.heap.size, 2, none⟩) (hbx 2 _ rfl) hnm
        have f3 := hg8.cell (a := ⟨wr.heap.size, 3, none⟩) (hbx 3 _ rfl) hnm
        have hgs := hrow2.lt
        have hrow8 : RowAt w8 gs (cornA ss W n 0) := (hg8.block gs (by simp; omega) (by intro h; injection h; omega)).trans (hrow2.alloc (.cells #[.int .i64 x, .int .i64 y, .int .i64 a, .int .i64 b] 70))
        have hC8 : Chg (fun q => q = gm) w4 w8 := (hC.trans (Chg.of_below ((Below.refl wr.heap.size wr).alloc (Nat.le_refl _) (.cells #[.int .i64 x, .int .i64 y, .int .i64 a, .int .i64 b] 70)) (Nat.le_refl _))).trans (Chg.of_grown hg8 (fun g hg => by injection hg; omega))
        have s8 := hg8.size
        simp at s8
        have HSUB := Lib.hid hsub
        have HD2 := Lib.hid hdone2
        have HM8 := Lib.hid hM8
        have HC8 := Lib.hid hC8
        have hgr : gm < w8.heap.size := by omega
        have hwr8 : wr.heap.size < w8.heap.size := by omega
        have hfc : (((rect ss x y a b : Nat) : Int) ≤ most ∧ few ss most x y a b = 1) ∨ (most < ((rect ss x y a b : Nat) : Int) ∧ brokenF (few ss most) x y a b = few ss most x y a b) := by
          rw [hstep]
          unfold stepF
          by_cases hm3 : ((rect ss x y a b : Nat) : Int) ≤ most
          · exact .inl ⟨hm3, if_pos hm3⟩
          · exact .inr ⟨by omega, (if_neg hm3).symm⟩
        have HWI := Lib.hid (within_part hb x y a b hxa hyb)
        clear hbx hg8 hM1 hstep hsub hdone2 hM8 hC8 hM hdone hC hq hrow2 hnm
        generalize rect ss x y a b = r at *
        rcases hfc with ⟨hm3, hf⟩ | ⟨hm3, hf⟩
        · have HF := Lib.hid hf
          have hmd : decide (most < (r : Int)) = false := by simpa using hm3
          have hmd2 : ¬ most < (r : Int) := by omega
          clear hf
          go_wp2_with (first | refine wpList_load_row rfl 64 _ rfl gs rfl _ (cornA ss W n 0) _ _ hrow8 Try.underlying64 rfl (by rw [size_cornA]; kernel_rfl) ?_)
          refine (HWI.out _).mono ?_; rintro e w9 ⟨rfl, hb9⟩
          have hM9 := HM8.out.below hb9 hgr
          have hC9 := HC8.out.trans (Chg.of_below hb9 (Nat.le_refl _))
          have HM9 := Lib.hid hM9
          have HC9 := Lib.hid hC9
          clear hb9 hM9 hC9 f0 f1 f2 f3 e0 e1 p0 p1 p2 p3 hrow8 hrun8
          go_wp2
          go_roundw
          case rel => exact ⟨k + 1, m + 1, _, by omega, by go_num, by omega, HM9.out, HD2.out _ (by rw [updQ_same, HF.out]; rfl) (fun _ _ _ _ h => updQ_other h), HC9.out⟩
          case measure => simp [intOf]; omega
        · have HF := Lib.hid hf
          have hmd : decide (most < (r : Int)) = true := by simpa using hm3
          clear hf
          go_wp2_with (first | refine wpList_load_row rfl 64 _ rfl gs rfl _ (cornA ss W n 0) _ _ hrow8 Try.underlying64 rfl (by rw [size_cornA]; kernel_rfl) ?_)
          refine (HWI.out _).mono ?_; rintro e w9 ⟨rfl, hb9⟩
          have s9 := hb9.size
          have hM9 := HM8.out.below hb9 hgr
          have hC9 := HC8.out.trans (Chg.of_below hb9 (Nat.le_refl _))
          have HM9 := Lib.hid hM9
          have HC9 := Lib.hid hC9
          have hfl := few_le64 ss most (x := x) (y := y) (a := a) (b := b) ha hb' (by omega) (by omega)
          have hsub2 : ∀ x' y' a' b', SubP x y a b x' y' a' b' → updQ M x y a b 1 x' y' a' b' = (few ss most x' y' a' b' : Nat) := by
            intro x' y' a' b' h
            rw [updQ_other (by rintro ⟨q1, q2, q3, q4⟩; obtain ⟨_, _, _, _, _, _, h7⟩ := h; omega)]
            exact HSUB.out x' y' a' b' h
          have h64 : ∀ x' y' a' b', SubP x y a b x' y' a' b' → few ss most x' y' a' b' ≤ 64 := by
            rintro x' y' a' b' ⟨q1, q2, q3, q4, q5, q6, q7⟩
            exact few_le64 ss most q1 q2 (by omega) (by omega)
          have HSUB2 := Lib.hid hsub2
          have H64 := Lib.hid h64
          have g0 := (hb9.cell (p := ⟨wr.heap.size, 0, none⟩) hwr8).trans f0
          have g1 := (hb9.cell (p := ⟨wr.heap.size, 1, none⟩) hwr8).trans f1
          have g2 := (hb9.cell (p := ⟨wr.heap.size, 2, none⟩) hwr8).trans f2
          have g3 := (hb9.cell (p := ⟨wr.heap.size, 3, none⟩) hwr8).trans f3
          have hnm : some wr.heap.size ≠ some gm := by intro h; injection h; omega
          have HNM := Lib.hid hnm
          have hwr9 : wr.heap.size < w9.heap.size := by omega
          have hgm9 : gm < w9.heap.size := by omega
          have hm100 : m + 1 ≤ 100000 := by omega
          have hx100 : x ≤ 100 := by omega
          have hy100 : y ≤ 100 := by omega
          have ha100 : a ≤ 100 := by omega
          have hb100 : b ≤ 100 := by omega
          have hwv : (Lit.int .i64 ((few ss most x y a b : Nat) : Int)).wf = true := WalkArith.wf_i64 (by omega)
          have hx8 : x + a ≤ 8 := by omega
          have hy8 : y + b ≤ 8 := by omega
          clear hb9 hM9 hC9 f0 f1 f2 f3 e0 e1 p0 p1 p2 p3 hrow8 hrun8 hnm hsub2 h64
          go_wp2
          refine wp_region_held_drew (S := (fun w' => w'.cell? ⟨wr.heap.size, 0, none⟩ = some (.int .i64 x) ∧ w'.cell? ⟨wr.heap.size, 1, none⟩ = some (.int .i64 y) ∧ w'.cell? ⟨wr.heap.size, 2, none⟩ = some (.int .i64 a) ∧ w'.cell? ⟨wr.heap.size, 3, none⟩ = some (.int .i64 b))) (by kernel_rfl) ?_ (fun hHeld => ?_)
          · ((try dsimp only); (repeat' apply And.intro); all_goals ((repeat (first | (with_reducible refine cell_drew ?_) | (with_reducible refine cell_drewN _ ?_) | ((with_reducible refine cell_alloc ?_ ?_); · first | omega | (simp; done) | (simp; omega) | assumption) | ((with_reducible refine cell_set ?_ ?_); · first | (intro e; injection e; omega) | (intro e; simp at e; done) | (intro e; simp at e; omega)))); first | assumption | (simp; done)))
          refine reg_on (i := 0) (d := 37) (v := ?rv13) rfl rfl (by kernel_rfl) (by kernel_rfl) (by kernel_rfl) (fun _ _ _ h => h) (by rfl) ?ry13 (by assumption) ?rr13
          case ry13 => (intro wz hSw; (try dsimp only at hSw); go_simp; try with_reducible rfl)
          (try simp only [Act.put, List.setIfInBounds_toArray, List.set_cons_zero, List.set_cons_succ])
          refine reg_on (i := 1) (d := 38) (v := ?rv14) rfl rfl (by kernel_rfl) (by kernel_rfl) (by kernel_rfl) (fun _ _ _ h => h) (by rfl) ?ry14 (by assumption) ?rr14
          case ry14 => (intro wz hSw; (try dsimp only at hSw); go_simp; try with_reducible rfl)
          (try simp only [Act.put, List.setIfInBounds_toArray, List.set_cons_zero, List.set_cons_succ])
          refine reg_on (i := 2) (d := 39) (v := ?rv15) rfl rfl (by kernel_rfl) (by kernel_rfl) (by kernel_rfl) (fun _ _ _ h => h) (by rfl) ?ry15 (by assumption) ?rr15
          case ry15 => (intro wz hSw; (try dsimp only at hSw); go_simp; try with_reducible rfl)
          (try simp only [Act.put, List.setIfInBounds_toArray, List.set_cons_zero, List.set_cons_succ])
          refine reg_on (i := 3) (d := 40) (v := ?rv16) rfl rfl (by kernel_rfl) (by kernel_rfl) (by kernel_rfl) (fun _ _ _ h => h) (by rfl) ?ry16 (by assumption) ?rr16
          case ry16 => (intro wz hSw; (try dsimp only at hSw); go_simp; try with_reducible rfl)
          (try simp only [Act.put, List.setIfInBounds_toArray, List.set_cons_zero, List.set_cons_succ])
          refine wpAnyH_ready (rs := [4]) (by kernel_rfl) (by simp) ?_
          refine AllReadyH.cons rfl (fun K hK => ?_) AllReadyH.nil
          go_simp
          go_at_call 43; refine (fewestBroken_any x y a b gm (m + 1) (updQ M x y a b 1) (few ss most) _ ha hb' hx8 hy8 (by exact HM9.out.drew) HSUB2.out H64.out).mono ?_; rintro e w10 ⟨rfl, hb10⟩; rw [HF.out]; have hM10 := MapQ.below (by exact HM9.out.drew) hb10 (by first | exact hgm9 | (simp; omega)); obtain ⟨w11, hrun11, hM11, hg11⟩ := hM10.put hm100 hx100 hy100 ha100 hb100 ((few ss most x y a b : Nat) : Int) hwv; have u0 : w10.cell? ⟨wr.heap.size, 0, none⟩ = some (.int .i64 x) := (hb10.cell (p := ⟨wr.heap.size, 0, none⟩) (by first | (simp; omega) | omega)).trans (by first | assumption | (go_split_ands; assumption)); have v0 := hg11.cell (a := ⟨wr.heap.size, 0, none⟩) u0 HNM.out; have u1 : w10.cell? ⟨wr.heap.size, 1, none⟩ = some (.int .i64 y) := (hb10.cell (p := ⟨wr.heap.size, 1, none⟩) (by first | (simp; omega) | omega)).trans (by first | assumption | (go_split_ands; assumption)); have v1 := hg11.cell (a := ⟨wr.heap.size, 1, none⟩) u1 HNM.out; have u2 : w10.cell? ⟨wr.heap.size, 2, none⟩ = some (.int .i64 a) := (hb10.cell (p := ⟨wr.heap.size, 2, none⟩) (by first | (simp; omega) | omega)).trans (by first | assumption | (go_split_ands; assumption)); have v2 := hg11.cell (a := ⟨wr.heap.size, 2, none⟩) u2 HNM.out; have u3 : w10.cell? ⟨wr.heap.size, 3, none⟩ = some (.int .i64 b) := (hb10.cell (p := ⟨wr.heap.size, 3, none⟩) (by first | (simp; omega) | omega)).trans (by first | assumption | (go_split_ands; assumption)); have v3 := hg11.cell (a := ⟨wr.heap.size, 3, none⟩) u3 HNM.out
          refine hK.out _ _ ?_ (fun hHeld => ?_)
          · ((try dsimp only); (repeat' apply And.intro); all_goals ((repeat (first | (with_reducible refine cell_drew ?_) | (with_reducible refine cell_drewN _ ?_) | ((with_reducible refine cell_alloc ?_ ?_); · first | omega | (simp; done) | (simp; omega) | assumption) | ((with_reducible refine cell_set ?_ ?_); · first | (intro e; injection e; omega) | (intro e; simp at e; done) | (intro e; simp at e; omega)))); first | assumption | (simp; done)))
          clear hK K
          (try simp only [Act.put, List.setIfInBounds_toArray, List.set_cons_zero, List.set_cons_succ])
          refine wpAnyH_ready (rs := [5]) (by kernel_rfl) (by simp) ?_
          refine AllReadyH.cons rfl (fun K hK => ?_) AllReadyH.nil
          go_simp
          refine hK.out _ _ ?_ (fun hHeld => ?_)
          · ((try dsimp only); (repeat' apply And.intro); all_goals ((repeat (first | (with_reducible refine cell_drew ?_) | (with_reducible refine cell_drewN _ ?_) | ((with_reducible refine cell_alloc ?_ ?_); · first | omega | (simp; done) | (simp; omega) | assumption) | ((with_reducible refine cell_set ?_ ?_); · first | (intro e; injection e; omega) | (intro e; simp at e; done) | (intro e; simp at e; omega)))); first | assumption | (simp; done)))
          clear hK K
          (try simp only [Act.put, List.setIfInBounds_toArray, List.set_cons_zero, List.set_cons_succ])
          refine wpAnyH_done (by kernel_rfl) ?_ _
          have hC11 := (HC9.out.trans (Chg.of_below ((Below.refl w9.heap.size w9).drew.trans (hb10.mono (by simp))) (Nat.le_refl _))).trans (Chg.of_grown hg11 (fun g hg => by injection hg; omega))
          have HM11 := Lib.hid hM11
          have HC11 := Lib.hid hC11
          clear hM11 hC11 hM10 hrun11 hg11 hb10 u0 u1 u2 u3 v0 v1 v2 v3 g0 g1 g2 g3
          go_wp2_with fail
          go_roundw
          case rel => exact ⟨k + 1, m + 1 + 1, _, by omega, by go_num, by omega, HM11.out, HD2.out _ (updQ_same _ _ _ _ _ _) (fun _ _ _ _ h => (updQ_other h).trans (updQ_other h)), HC11.out⟩
          case measure => simp [intOf]; omega
      · have hke : k = N := by omega
        have hlook : M 0 0 W n = (few ss most 0 0 W n : Nat) := hdone.out 0 0 W n (by rw [List.take_of_length_le (by have := HN.out; omega)]; exact barParts_mem hW1 (by omega) hn1 (by omega) (Nat.le_refl _))
        have k1 : (Instr.lookup 76 (.map (some gm)) (part4 0 0 W n) false).run Try.prog wr = .ok (.int .i64 (few ss most 0 0 W n : Nat)) wr := by
          have h := hM.look (x := 0) (y := 0) (p := W) (q := n) (by omega) (by omega) (by omega) (by omega)
          rw [hlook] at h
          exact h
        have hkN : ¬ (k : Int) < (N : Int) := by omega
        have hfin := hC.below HB5.out (fun i hi => by have : i = gm := hi; omega)
        have HFIN := Lib.hid hfin
        clear hlook hM hdone hC hrow2 hke hfin
        go_wp2
        refine bodyPost_ret (v := okF (few ss most 0 0 W n : Nat) true) (by simp [results, Try.results21, go_sem]) rfl ⟨rfl, HFIN.out⟩

end Go.Proofs.Ytfbmnaepobhnkaa
