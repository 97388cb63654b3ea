/-
  Contract: the program's CheapestToEat.
-/
import Derived.Test.YtobncknlipeinaaChpS
namespace Go.Proofs.Ytobncknlipeinaa
open Go.RowKit Go.Maps
set_option linter.unusedVariables false
set_option linter.unusedSimpArgs false

theorem eql_bar (x y : Int) (h : ¬ (x = 1 ∧ y = 1)) (w : World) : (binOp .eql 26 (.agg #[.int .i64 x, .int .i64 y]) (.agg #[.int .i64 1, .int .i64 1])).run Try.prog w = .ok (.bool false) w := by
  go_simp
  intro e1 e2
  exact h ⟨e1, e2⟩

set_option maxRecDepth 100000 in
set_option maxHeartbeats 4000000 in
theorem cheapest_yes (x y : Nat) (w : World) (hx1 : 1 ≤ x) (hx2 : x ≤ 12) (hy1 : 1 ≤ y) (hy2 : y ≤ 12) (h11 : ¬ (x = 1 ∧ y = 1)) :
    Calls Try.prog 14 #[bar2 x y] w fun e w' => ∃ (N : C3) (k : Nat), RecN N (max x y) (min x y) ∧ FirstLeast (N (max x y) (min x y)) (x * y) k ∧ e = .returned (.tuple #[.int .i64 k, .int .i64 (N (max x y) (min x y) k), .bool true]) ∧ Below w.heap.size w w' := by
  have hbar : barB (x : Int) (y : Int) = true := by simp [barB]; omega
  have hxy : x * y ≤ 144 := Nat.le_trans (Nat.mul_le_mul hx2 hy2) (by omega)
  have hxy2 : 2 ≤ x * y := by
    rcases (show 2 ≤ x ∨ 2 ≤ y by omega) with h | h
    · exact Nat.le_trans (show 2 ≤ 2 * 1 by omega) (Nat.mul_le_mul h hy1)
    · exact Nat.le_trans (show 2 ≤ 1 * 2 by omega) (Nat.mul_le_mul hx1 h)
  have hxw : IntKind.i64.wrap ((x : Int) * (y : Int)) = ((x * y : Nat) : Int) := by rw [← Int.natCast_mul]; exact IntWalk.i64_in _ (by omega)
  obtain ⟨xy, hxye⟩ : ∃ z, z = x * y := ⟨_, rfl⟩
  rw [← hxye] at hxy hxy2 hxw ⊢
  have HIB : Hid (∀ wx, Calls Try.prog 26 #[bar2 x y] wx fun e w' => e = .returned (.bool true) ∧ Below wx.heap.size wx w') := fun wx => by have h := isBar_any (x : Int) (y : Int) wx; rwa [hbar] at h
  have HCE := Lib.hid (fun wx => costsToEat_any x y wx hx1 hx2 hy1 hy2)
  have hly := fun wx => lying_any (x : Int) (y : Int) wx
  obtain ⟨X, hX⟩ : ∃ X, X = max x y := ⟨_, rfl⟩
  obtain ⟨Y, hY⟩ : ∃ Y, Y = min x y := ⟨_, rfl⟩
  rw [show max (x : Int) (y : Int) = (X : Int) by omega, show min (x : Int) (y : Int) = (Y : Int) by omega] at hly
  rw [← hX, ← hY] at HCE ⊢
  have HLY := Lib.hid hly
  have hX2 : X ≤ 100 := by omega
  have hY2 : Y ≤ 100 := by omega
  have zc : zc_50 = arrE (fun _ => 0) := by rw [← zero_arrE]; kernel_rfl
  have HZC := Lib.hid zc
  have hcmp := fun wx => eql_bar (x : Int) (y : Int) (by omega) wx
  clear zc hly hX hY hbar hxye h11
  have hzf := fun wx => zero_50 wx; have hze := zc_50_ne
  go_enter Try.func14, Try.ntmps14
  go_wp2_with fail
  refine (HIB.out _).mono ?_; rintro e w1 ⟨rfl, hb1⟩; have s1 := hb1.size; obtain ⟨hc1, hf1⟩ := bcell hb1; have z1_w0 : w.heap.size < w1.heap.size := (by have q := s1; first | omega | (simp at q; omega))
  have c0 : w1.cell? ⟨w.heap.size, 0, none⟩ = some (.int .i64 x) := by rw [hc1 _ _ (by simp)]; simp [go_sem]
  have c1 : w1.cell? ⟨w.heap.size, 1, none⟩ = some (.int .i64 y) := by rw [hc1 _ _ (by simp)]; simp [go_sem]
  have bw1 : Below w.heap.size w w1 := by (repeat (first | (with_reducible exact Below.refl _ _) | (with_reducible assumption) | (with_reducible refine Below.drew ?_) | ((with_reducible refine balloc ?_ _ ?_); · (first | (simp; done) | (simp; omega) | omega)) | ((with_reducible refine bset ?_ _ ?_); · (first | (simp; done) | (simp; omega) | omega)) | (with_reducible refine bdrewN _ ?_) | ((with_reducible refine bcall ?_ (by assumption) ?_); · (first | (simp; done) | (simp; omega) | omega))))
  have BW1 := Lib.hid bw1
  clear hc1 hf1 hb1 bw1
  go_wp2
  rename_i K hK0
  have hw1 : w.heap.size < w1.heap.size := z1_w0
  have HS : Hid (∀ wx : World, Below w1.heap.size w1 wx → (fun w' : World => w'.cell? ⟨w.heap.size, 0, none⟩ = some (.int .i64 x) ∧ w'.cell? ⟨w.heap.size, 1, none⟩ = some (.int .i64 y)) wx) := fun wx h =>
    ⟨(h.cell (p := ⟨w.heap.size, 0, none⟩) hw1).trans c0, (h.cell (p := ⟨w.heap.size, 1, none⟩) hw1).trans c1⟩
  have HNEW : Hid (∀ wx : World, Below w1.heap.size w1 wx → ∃ wn g, wn = wx.alloc (.cells zc_50 50) ∧ g = wx.heap.size ∧ RowE wn g (fun _ => 0) ∧ Below w1.heap.size w1 wn ∧ w1.heap.size ≤ g ∧ ∀ mb n N, MapE wx mb n N → MapE wn mb n N) := fun wx h =>
    ⟨_, _, rfl, rfl, by rw [HZC.out]; exact RowE.new wx _, h.alloc h.size _, h.size, fun mb n N hm => hm.alloc _⟩
  have HSTO : Hid (∀ (wx : World) (g : Nat) (F G : Nat → Int) (V : Array Value), V = arrE F → Below w1.heap.size w1 wx → w1.heap.size ≤ g → RowE wx g G → ∃ wn, wn = wx.setRow g V ∧ RowE wn g F ∧ Below w1.heap.size w1 wn) := fun wx g F G V hV hb hg hr => by
    subst hV
    exact ⟨_, rfl, setRow_heap wx g _ (arrE F) _ _ hr, below_setRowE hb hg _⟩
  have HI : Hid (∀ (F : Nat → Int) (V : Array Value), V = arrE F → (Try.prog.info? 50).map (·.size) = some V.size ∧ V.size = 145 ∧ V.all (·.oneCell') = true) := fun F V hV => by
    have e : V.size = 145 := by rw [hV]; exact size_arrE _
    refine ⟨?_, e, ?_⟩
    · rw [e]; kernel_rfl
    · rw [hV]; exact oneCell_arrE _
  have HLK : Hid (∀ (wx : World) (mb n : Nat) (N : C3) (V : Array Value), V = arrE (N X Y) → MapE wx mb n N → (Instr.lookup 51 (.map (some mb)) (bar2 X Y) false).run Try.prog wx = .ok (.agg V) wx) := fun wx mb n N V hV h => by rw [hV]; exact h.look hX2 hY2
  clear c0 c1
  have TAIL : ∀ (g mb : Nat) (N : C3) (V : Array Value) (W : World), RecN N X Y → RowE W g (N X Y) → w1.heap.size ≤ g → Below w1.heap.size w1 W → K { tmps := #[bar2 x y, .pointer (some ⟨w.heap.size, 0, none⟩), .int .i64 0, .int .i64 0, .bool false, .pointer (some ⟨g, 0, none⟩), undef, undef, .agg #[.int .i64 x, .int .i64 y], .bool true, .bool false, .bool false, .agg #[.int .i64 x, .int .i64 y], .agg #[.int .i64 1, .int .i64 1], .bool false, .bool false, bar2 x y, .map (some mb), bar2 x y, bar2 X Y, .agg V, undef, undef, undef, undef, undef, undef, undef, undef, undef, undef, undef, undef, undef, undef, undef, undef, undef, undef, undef, undef, undef], defers := [] } W := by
    intro g mb N V W hR hrow hg bW
    refine hK0 _ _ ?_
    obtain ⟨F, hF⟩ : ∃ F, Hid (F = N X Y) := ⟨_, rfl⟩
    rw [← hF.out] at hrow
    have k := HS.out W bW
    obtain ⟨k0, k1⟩ := k
    have hW0 := bW.size
    go_wp2
    go_loopw [6, 7] (fun bv jv wr => ∃ b j : Nat, 2 ≤ j ∧ j ≤ xy ∧ b < 145 ∧ bv = .int .i64 b ∧ jv = .int .i64 j ∧ Hid (FirstLeast F j b) ∧ Hid (RowE wr g F) ∧ Hid (Below w1.heap.size w1 wr)) (fun _ jv _ => xy - (intOf jv).toNat)
    case atStart => exact ⟨1, 2, by omega, hxy2, by omega, rfl, rfl, FirstLeast.one F, hrow, bW⟩
    case round =>
      clear k0 k1 hrow
      obtain ⟨b, j, hj2, hjx, hb145, rfl, rfl, hfl, hr, hB⟩ := hrel
      have k := HS.out _ hB.out
      obtain ⟨k0, k1⟩ := k
      have hr2 := Lib.hid hr.out.drew
      have hB2 := Lib.hid hB.out.drew
      have x1 : (b : Int) < 145 := by omega
      by_cases hlt : j < xy
      · have hlti : (j : Int) < (xy : Int) := by omega
        have x2 : (j : Int) < 145 := by omega
        have x3 : j < 145 := by omega
        have d0 := hr.out.cell (k := j) (by omega)
        have d1 := hr.out.cell (k := b) hb145
        by_cases hl : F j < F b
        · have hn := Lib.hid (hfl.out.yes hl)
          generalize F j = fj at *
          generalize F b = fb at *
          go_wp2
          refine wp_region_held_drew (S := (fun w' => w'.cell? ⟨g, j, none⟩ = some (.int .i64 fj) ∧ w'.cell? ⟨g, b, none⟩ = some (.int .i64 fb))) (by kernel_rfl) ?_ (fun hHeld => ?_)
          · ((try dsimp only); (repeat' apply And.intro); all_goals ((repeat (first | (with_reducible refine cell_drew ?_) | (with_reducible refine cell_drewN _ ?_) | ((with_reducible refine cell_alloc ?_ ?_); · first | omega | (simp; done) | (simp; omega) | assumption) | ((with_reducible refine cell_set ?_ ?_); · first | (intro e; injection e; omega) | (intro e; simp at e; done) | (intro e; simp at e; omega)))); first | assumption | (simp; done)))
          refine reg_on (i := 0) (d := 30) (v := ?rv1) rfl rfl (by kernel_rfl) (by kernel_rfl) (by kernel_rfl) (fun _ _ _ h => h) (by rfl) ?ry1 (by assumption) ?rr1
          case ry1 => (intro wz hSw; (try dsimp only at hSw); go_simp; try with_reducible rfl)
          (try simp only [Act.put, List.setIfInBounds_toArray, List.set_cons_zero, List.set_cons_succ])
          refine reg_on (i := 1) (d := 31) (v := ?rv2) rfl rfl (by kernel_rfl) (by kernel_rfl) (by kernel_rfl) (fun _ _ _ h => h) (by rfl) ?ry2 (by assumption) ?rr2
          case ry2 => (intro wz hSw; (try dsimp only at hSw); go_simp; try with_reducible rfl)
          (try simp only [Act.put, List.setIfInBounds_toArray, List.set_cons_zero, List.set_cons_succ])
          refine reg_on (i := 2) (d := 32) (v := ?rv3) rfl rfl (by kernel_rfl) (by kernel_rfl) (by kernel_rfl) (fun _ _ _ h => h) (by rfl) ?ry3 (by assumption) ?rr3
          case ry3 => (intro wz hSw; (try dsimp only at hSw); go_simp; try with_reducible rfl)
          (try simp only [Act.put, List.setIfInBounds_toArray, List.set_cons_zero, List.set_cons_succ])
          refine reg_on (i := 3) (d := 33) (v := ?rv4) rfl rfl (by kernel_rfl) (by kernel_rfl) (by kernel_rfl) (fun _ _ _ h => h) (by rfl) ?ry4 (by assumption) ?rr4
          case ry4 => (intro wz hSw; (try dsimp only at hSw); go_simp; try with_reducible rfl)
          (try simp only [Act.put, List.setIfInBounds_toArray, List.set_cons_zero, List.set_cons_succ])
          refine reg_on (i := 4) (d := 34) (v := ?rv5) rfl rfl (by kernel_rfl) (by kernel_rfl) (by kernel_rfl) (fun _ _ _ h => h) (by rfl) ?ry5 (by assumption) ?rr5
          case ry5 => (intro wz hSw; (try dsimp only at hSw); go_simp; try with_reducible rfl)
          (try simp only [Act.put, List.setIfInBounds_toArray, List.set_cons_zero, List.set_cons_succ])
          refine reg_on (i := 5) (d := 35) (v := ?rv6) rfl rfl (by kernel_rfl) (by kernel_rfl) (by kernel_rfl) (fun _ _ _ h => h) (by rfl) ?ry6 (by assumption) ?rr6
          case ry6 => (intro wz hSw; (try dsimp only at hSw); go_simp; try with_reducible rfl)
          (try simp only [Act.put, List.setIfInBounds_toArray, List.set_cons_zero, List.set_cons_succ])
          refine reg_on (i := 6) (d := 36) (v := ?rv7) rfl rfl (by kernel_rfl) (by kernel_rfl) (by kernel_rfl) (fun _ _ _ h => h) (by rfl) ?ry7 (by assumption) ?rr7
          case ry7 => (intro wz hSw; (try dsimp only at hSw); go_simp; try with_reducible rfl)
          (try simp only [Act.put, List.setIfInBounds_toArray, List.set_cons_zero, List.set_cons_succ])
          refine wpAnyH_done (by kernel_rfl) ?_ _
          go_wp2
          go_roundw
          case rel => exact ⟨j, j + 1, by omega, by omega, by omega, rfl, by go_num, hn, hr2, hB2⟩
          case measure => simp [intOf]; omega
        · have hn := Lib.hid (hfl.out.no hl)
          generalize F j = fj at *
          generalize F b = fb at *
          go_wp2
          refine wp_region_held_drew (S := (fun w' => w'.cell? ⟨g, j, none⟩ = some (.int .i64 fj) ∧ w'.cell? ⟨g, b, none⟩ = some (.int .i64 fb))) (by kernel_rfl) ?_ (fun hHeld => ?_)
          · ((try dsimp only); (repeat' apply And.intro); all_goals ((repeat (first | (with_reducible refine cell_drew ?_) | (with_reducible refine cell_drewN _ ?_) | ((with_reducible refine cell_alloc ?_ ?_); · first | omega | (simp; done) | (simp; omega) | assumption) | ((with_reducible refine cell_set ?_ ?_); · first | (intro e; injection e; omega) | (intro e; simp at e; done) | (intro e; simp at e; omega)))); first | assumption | (simp; done)))
          refine reg_on (i := 0) (d := 30) (v := ?rv8) rfl rfl (by kernel_rfl) (by kernel_rfl) (by kernel_rfl) (fun _ _ _ h => h) (by rfl) ?ry8 (by assumption) ?rr8
          case ry8 => (intro wz hSw; (try dsimp only at hSw); go_simp; try with_reducible rfl)
          (try simp only [Act.put, List.setIfInBounds_toArray, List.set_cons_zero, List.set_cons_succ])
          refine reg_on (i := 1) (d := 31) (v := ?rv9) rfl rfl (by kernel_rfl) (by kernel_rfl) (by kernel_rfl) (fun _ _ _ h => h) (by rfl) ?ry9 (by assumption) ?rr9
          case ry9 => (intro wz hSw; (try dsimp only at hSw); go_simp; try with_reducible rfl)
          (try simp only [Act.put, List.setIfInBounds_toArray, List.set_cons_zero, List.set_cons_succ])
          refine reg_on (i := 2) (d := 32) (v := ?rv10) rfl rfl (by kernel_rfl) (by kernel_rfl) (by kernel_rfl) (fun _ _ _ h => h) (by rfl) ?ry10 (by assumption) ?rr10
          case ry10 => (intro wz hSw; (try dsimp only at hSw); go_simp; try with_reducible rfl)
          (try simp only [Act.put, List.setIfInBounds_toArray, List.set_cons_zero, List.set_cons_succ])
          refine reg_on (i := 3) (d := 33) (v := ?rv11) rfl rfl (by kernel_rfl) (by kernel_rfl) (by kernel_rfl) (fun _ _ _ h => h) (by rfl) ?ry11 (by assumption) ?rr11
          case ry11 => (intro wz hSw; (try dsimp only at hSw); go_simp; try with_reducible rfl)
          (try simp only [Act.put, List.setIfInBounds_toArray, List.set_cons_zero, List.set_cons_succ])
          refine reg_on (i := 4) (d := 34) (v := ?rv12) rfl rfl (by kernel_rfl) (by kernel_rfl) (by kernel_rfl) (fun _ _ _ h => h) (by rfl) ?ry12 (by assumption) ?rr12
          case ry12 => (intro wz hSw; (try dsimp only at hSw); go_simp; try with_reducible rfl)
          (try simp only [Act.put, List.setIfInBounds_toArray, List.set_cons_zero, List.set_cons_succ])
          refine reg_on (i := 5) (d := 35) (v := ?rv13) rfl rfl (by kernel_rfl) (by kernel_rfl) (by kernel_rfl) (fun _ _ _ h => h) (by rfl) ?ry13 (by assumption) ?rr13
          case ry13 => (intro wz hSw; (try dsimp only at hSw); go_simp; try with_reducible rfl)
          (try simp only [Act.put, List.setIfInBounds_toArray, List.set_cons_zero, List.set_cons_succ])
          refine reg_on (i := 6) (d := 36) (v := ?rv14) rfl rfl (by kernel_rfl) (by kernel_rfl) (by kernel_rfl) (fun _ _ _ h => h) (by rfl) ?ry14 (by assumption) ?rr14
          case ry14 => (intro wz hSw; (try dsimp only at hSw); go_simp; try with_reducible rfl)
          (try simp only [Act.put, List.setIfInBounds_toArray, List.set_cons_zero, List.set_cons_succ])
          refine wpAnyH_done (by kernel_rfl) ?_ _
          go_wp2
          go_roundw
          case rel => exact ⟨b, j + 1, by omega, by omega, hb145, rfl, by go_num, hn, hr2, hB2⟩
          case measure => simp [intOf]; omega
      · have hjx2 : j = xy := by omega
        have hnlt : ¬ (j : Int) < (xy : Int) := by omega
        have d1 := hr.out.cell (k := b) hb145
        have hfin := hfl.out
        rw [hjx2, hF.out] at hfin
        have HFIN := Lib.hid hfin
        have HFB : Hid (F b = N X Y b) := by simp only [Hid]; rw [hF.out]
        clear hfin
        generalize F b = fb at *
        go_wp2
        refine wp_region_held_drew (S := (fun w' => w'.cell? ⟨g, b, none⟩ = some (.int .i64 fb))) (by kernel_rfl) ?_ (fun hHeld => ?_)
        · ((try dsimp only); (repeat' apply And.intro); all_goals ((repeat (first | (with_reducible refine cell_drew ?_) | (with_reducible refine cell_drewN _ ?_) | ((with_reducible refine cell_alloc ?_ ?_); · first | omega | (simp; done) | (simp; omega) | assumption) | ((with_reducible refine cell_set ?_ ?_); · first | (intro e; injection e; omega) | (intro e; simp at e; done) | (intro e; simp at e; omega)))); first | assumption | (simp; done)))
        refine reg_on (i := 0) (d := 38) (v := ?rv15) rfl rfl (by kernel_rfl) (by kernel_rfl) (by kernel_rfl) (fun _ _ _ h => h) (by rfl) ?ry15 (by assumption) ?rr15
        case ry15 => (intro wz hSw; (try dsimp only at hSw); go_simp; try with_reducible rfl)
        (try simp only [Act.put, List.setIfInBounds_toArray, List.set_cons_zero, List.set_cons_succ])
        refine reg_on (i := 1) (d := 39) (v := ?rv16) rfl rfl (by kernel_rfl) (by kernel_rfl) (by kernel_rfl) (fun _ _ _ h => h) (by rfl) ?ry16 (by assumption) ?rr16
        case ry16 => (intro wz hSw; (try dsimp only at hSw); go_simp; try with_reducible rfl)
        (try simp only [Act.put, List.setIfInBounds_toArray, List.set_cons_zero, List.set_cons_succ])
        refine reg_on (i := 2) (d := 40) (v := ?rv17) rfl rfl (by kernel_rfl) (by kernel_rfl) (by kernel_rfl) (fun _ _ _ h => h) (by rfl) ?ry17 (by assumption) ?rr17
        case ry17 => (intro wz hSw; (try dsimp only at hSw); go_simp; try with_reducible rfl)
        (try simp only [Act.put, List.setIfInBounds_toArray, List.set_cons_zero, List.set_cons_succ])
        refine reg_on (i := 3) (d := 41) (v := ?rv18) rfl rfl (by kernel_rfl) (by kernel_rfl) (by kernel_rfl) (fun _ _ _ h => h) (by rfl) ?ry18 (by assumption) ?rr18
        case ry18 => (intro wz hSw; (try dsimp only at hSw); go_simp; try with_reducible rfl)
        (try simp only [Act.put, List.setIfInBounds_toArray, List.set_cons_zero, List.set_cons_succ])
        refine reg_on (i := 4) (d := 2) (v := ?rv19) rfl rfl (by kernel_rfl) (by kernel_rfl) (by kernel_rfl) (fun _ _ _ h => h) (by rfl) ?ry19 (by assumption) ?rr19
        case ry19 => (intro wz hSw; (try dsimp only at hSw); go_simp; try with_reducible rfl)
        (try simp only [Act.put, List.setIfInBounds_toArray, List.set_cons_zero, List.set_cons_succ])
        refine reg_on (i := 5) (d := 3) (v := ?rv20) rfl rfl (by kernel_rfl) (by kernel_rfl) (by kernel_rfl) (fun _ _ _ h => h) (by rfl) ?ry20 (by assumption) ?rr20
        case ry20 => (intro wz hSw; (try dsimp only at hSw); go_simp; try with_reducible rfl)
        (try simp only [Act.put, List.setIfInBounds_toArray, List.set_cons_zero, List.set_cons_succ])
        refine reg_on (i := 6) (d := 4) (v := ?rv21) rfl rfl (by kernel_rfl) (by kernel_rfl) (by kernel_rfl) (fun _ _ _ h => h) (by rfl) ?ry21 (by assumption) ?rr21
        case ry21 => (intro wz hSw; (try dsimp only at hSw); go_simp; try with_reducible rfl)
        (try simp only [Act.put, List.setIfInBounds_toArray, List.set_cons_zero, List.set_cons_succ])
        refine wpAnyH_done (by kernel_rfl) ?_ _
        go_wp2
        go_ret3
        exact ⟨N, b, hR, HFIN.out, by rw [← HFB.out]; rfl, BW1.out.trans (hB2.out.mono (Nat.le_of_lt hw1))⟩
  have HT := Lib.hid TAIL
  clear TAIL hK0
  refine wp_region_held_drew (S := fun w' => w'.cell? ⟨w.heap.size, 0, none⟩ = some (.int .i64 x) ∧ w'.cell? ⟨w.heap.size, 1, none⟩ = some (.int .i64 y)) (by kernel_rfl) ?_ (fun hHeld => ?_)
  · exact HS.out _ (Below.refl _ _).drew
  obtain ⟨v0, hv0⟩ : ∃ v0, v0 = w1.drew := ⟨_, rfl⟩
  have B0 : Below w1.heap.size w1 v0 := by rw [hv0]; exact (Below.refl _ _).drew
  rw [← hv0] at hHeld ⊢
  clear hv0
  have b0 := B0.size
  refine reg_on (i := 0) (d := 16) (v := ?rv22) rfl rfl (by kernel_rfl) (by kernel_rfl) (by kernel_rfl) (fun _ _ _ h => h) (by rfl) ?ry22 (by assumption) ?rr22
  case ry22 => (intro wz hSw; (try dsimp only at hSw); go_simp; try with_reducible rfl)
  (try simp only [Act.put, List.setIfInBounds_toArray, List.set_cons_zero, List.set_cons_succ])
  refine reg_on (i := 2) (d := 18) (v := ?rv23) rfl rfl (by kernel_rfl) (by kernel_rfl) (by kernel_rfl) (fun _ _ _ h => h) (by rfl) ?ry23 (by assumption) ?rr23
  case ry23 => (intro wz hSw; (try dsimp only at hSw); go_simp; try with_reducible rfl)
  (try simp only [Act.put, List.setIfInBounds_toArray, List.set_cons_zero, List.set_cons_succ])
  refine wpAnyH_ready (rs := [1, 5]) (by kernel_rfl) (by simp) ?_
  refine AllReadyH.cons rfl (fun K2 hK => ?_) (AllReadyH.cons rfl (fun K2 hK => ?_) (AllReadyH.nil))
  ·
    go_simp
    go_at_call 27; refine (HCE.out _).mono ?_; rintro e v1 ⟨N, mb, rfl, ⟨n2, m1⟩, hR, hBD, hmb, h1⟩
    have B1 := B0.trans (h1.mono b0)
    have b1 := B1.size
    clear h1
    refine hK.out _ _ (HS.out _ B1) (fun hHeld => ?_)
    clear hK K2
    (try simp only [Act.put, List.setIfInBounds_toArray, List.set_cons_zero, List.set_cons_succ])
    refine wpAnyH_ready (rs := [3, 5]) (by kernel_rfl) (by simp) ?_
    refine AllReadyH.cons rfl (fun K2 hK => ?_) (AllReadyH.cons rfl (fun K2 hK => ?_) (AllReadyH.nil))
    ·
      go_simp
      go_at_call 28; refine (HLY.out _).mono ?_; rintro e v2 ⟨rfl, h2⟩
      have B2 := B1.trans (h2.mono b1)
      have m2 := m1.below h2 m1.lt
      have b2 := B2.size
      clear h2
      refine hK.out _ _ (HS.out _ B2) (fun hHeld => ?_)
      clear hK K2
      (try simp only [Act.put, List.setIfInBounds_toArray, List.set_cons_zero, List.set_cons_succ])
      refine wpAnyH_ready (rs := [4, 5]) (by kernel_rfl) (by simp) ?_
      refine AllReadyH.cons rfl (fun K2 hK => ?_) (AllReadyH.cons rfl (fun K2 hK => ?_) (AllReadyH.nil))
      ·
        obtain ⟨V, hV⟩ : ∃ V, Hid (V = arrE (N X Y)) := ⟨_, rfl⟩
        have hlk := HLK.out _ _ _ _ V hV.out m2
        go_simp
        have B3 := B2
        have b3 := B3.size
        clear hlk
        have m3 := m2
        refine hK.out _ _ (HS.out _ B3) (fun hHeld => ?_)
        clear hK K2
        (try simp only [Act.put, List.setIfInBounds_toArray, List.set_cons_zero, List.set_cons_succ])
        refine wpAnyH_ready (rs := [5]) (by kernel_rfl) (by simp) ?_
        refine AllReadyH.cons rfl (fun K2 hK => ?_) (AllReadyH.nil)
        go_simp
        obtain ⟨v4, g, ew, eg, r4, B4, lg, CC⟩ := HNEW.out _ B3
        rw [← ew, ← eg]
        have m4 := CC _ _ _ m3
        have b4 := B4.size
        clear ew eg CC
        refine hK.out _ _ (HS.out _ B4) (fun hHeld => ?_)
        clear hK K2
        (try simp only [Act.put, List.setIfInBounds_toArray, List.set_cons_zero, List.set_cons_succ])
        refine wpAnyH_ready (rs := [6]) (by kernel_rfl) (by simp) ?_
        refine AllReadyH.cons rfl (fun K2 hK => ?_) (AllReadyH.nil)
        refine step_store_rowC rfl 50 (.tmp 5) (.tmp 20) rfl g V rfl rfl _ (arrE fun _ => 0) r4 (HI.out _ _ hV.out).1 ((size_arrE _).trans (HI.out _ _ hV.out).2.1.symm) (HI.out _ _ hV.out).2.2 ?_
        obtain ⟨v5, ew, r5, B5⟩ := HSTO.out _ g _ _ V hV.out B4 lg r4
        rw [← ew]
        clear ew
        refine hK.out _ _ (HS.out _ B5) (fun hHeld => ?_)
        clear hK K2
        (try simp only [Act.put, List.setIfInBounds_toArray, List.set_cons_zero, List.set_cons_succ])
        refine wpAnyH_done (by kernel_rfl) ?_ _
        exact HT.out g mb N V _ hR r5 lg B5
      ·
        go_simp
        obtain ⟨v3, g, ew, eg, r3, B3, lg, CC⟩ := HNEW.out _ B2
        rw [← ew, ← eg]
        have m3 := CC _ _ _ m2
        have b3 := B3.size
        clear ew eg CC
        refine hK.out _ _ (HS.out _ B3) (fun hHeld => ?_)
        clear hK K2
        (try simp only [Act.put, List.setIfInBounds_toArray, List.set_cons_zero, List.set_cons_succ])
        refine wpAnyH_ready (rs := [4]) (by kernel_rfl) (by simp) ?_
        refine AllReadyH.cons rfl (fun K2 hK => ?_) (AllReadyH.nil)
        obtain ⟨V, hV⟩ : ∃ V, Hid (V = arrE (N X Y)) := ⟨_, rfl⟩
        have hlk := HLK.out _ _ _ _ V hV.out m3
        go_simp
        have B4 := B3
        have b4 := B4.size
        clear hlk
        have r4 := r3
        have m4 := m3
        refine hK.out _ _ (HS.out _ B4) (fun hHeld => ?_)
        clear hK K2
        (try simp only [Act.put, List.setIfInBounds_toArray, List.set_cons_zero, List.set_cons_succ])
        refine wpAnyH_ready (rs := [6]) (by kernel_rfl) (by simp) ?_
        refine AllReadyH.cons rfl (fun K2 hK => ?_) (AllReadyH.nil)
        refine step_store_rowC rfl 50 (.tmp 5) (.tmp 20) rfl g V rfl rfl _ (arrE fun _ => 0) r4 (HI.out _ _ hV.out).1 ((size_arrE _).trans (HI.out _ _ hV.out).2.1.symm) (HI.out _ _ hV.out).2.2 ?_
        obtain ⟨v5, ew, r5, B5⟩ := HSTO.out _ g _ _ V hV.out B4 lg r4
        rw [← ew]
        clear ew
        refine hK.out _ _ (HS.out _ B5) (fun hHeld => ?_)
        clear hK K2
        (try simp only [Act.put, List.setIfInBounds_toArray, List.set_cons_zero, List.set_cons_succ])
        refine wpAnyH_done (by kernel_rfl) ?_ _
        exact HT.out g mb N V _ hR r5 lg B5
    ·
      go_simp
      obtain ⟨v2, g, ew, eg, r2, B2, lg, CC⟩ := HNEW.out _ B1
      rw [← ew, ← eg]
      have m2 := CC _ _ _ m1
      have b2 := B2.size
      clear ew eg CC
      refine hK.out _ _ (HS.out _ B2) (fun hHeld => ?_)
      clear hK K2
      (try simp only [Act.put, List.setIfInBounds_toArray, List.set_cons_zero, List.set_cons_succ])
      refine wpAnyH_ready (rs := [3]) (by kernel_rfl) (by simp) ?_
      refine AllReadyH.cons rfl (fun K2 hK => ?_) (AllReadyH.nil)
      go_simp
      go_at_call 28; refine (HLY.out _).mono ?_; rintro e v3 ⟨rfl, h3⟩
      have B3 := B2.trans (h3.mono b2)
      have m3 := m2.below h3 m2.lt
      have r3 := r2.below h3 r2.lt
      have b3 := B3.size
      clear h3
      refine hK.out _ _ (HS.out _ B3) (fun hHeld => ?_)
      clear hK K2
      (try simp only [Act.put, List.setIfInBounds_toArray, List.set_cons_zero, List.set_cons_succ])
      refine wpAnyH_ready (rs := [4]) (by kernel_rfl) (by simp) ?_
      refine AllReadyH.cons rfl (fun K2 hK => ?_) (AllReadyH.nil)
      obtain ⟨V, hV⟩ : ∃ V, Hid (V = arrE (N X Y)) := ⟨_, rfl⟩
      have hlk := HLK.out _ _ _ _ V hV.out m3
      go_simp
      have B4 := B3
      have b4 := B4.size
      clear hlk
      have r4 := r3
      have m4 := m3
      refine hK.out _ _ (HS.out _ B4) (fun hHeld => ?_)
      clear hK K2
      (try simp only [Act.put, List.setIfInBounds_toArray, List.set_cons_zero, List.set_cons_succ])
      refine wpAnyH_ready (rs := [6]) (by kernel_rfl) (by simp) ?_
      refine AllReadyH.cons rfl (fun K2 hK => ?_) (AllReadyH.nil)
      refine step_store_rowC rfl 50 (.tmp 5) (.tmp 20) rfl g V rfl rfl _ (arrE fun _ => 0) r4 (HI.out _ _ hV.out).1 ((size_arrE _).trans (HI.out _ _ hV.out).2.1.symm) (HI.out _ _ hV.out).2.2 ?_
      obtain ⟨v5, ew, r5, B5⟩ := HSTO.out _ g _ _ V hV.out B4 lg r4
      rw [← ew]
      clear ew
      refine hK.out _ _ (HS.out _ B5) (fun hHeld => ?_)
      clear hK K2
      (try simp only [Act.put, List.setIfInBounds_toArray, List.set_cons_zero, List.set_cons_succ])
      refine wpAnyH_done (by kernel_rfl) ?_ _
      exact HT.out g mb N V _ hR r5 lg B5
  ·
    go_simp
    obtain ⟨v1, g, ew, eg, r1, B1, lg, CC⟩ := HNEW.out _ B0
    rw [← ew, ← eg]
    have b1 := B1.size
    clear ew eg CC
    refine hK.out _ _ (HS.out _ B1) (fun hHeld => ?_)
    clear hK K2
    (try simp only [Act.put, List.setIfInBounds_toArray, List.set_cons_zero, List.set_cons_succ])
    refine wpAnyH_ready (rs := [1]) (by kernel_rfl) (by simp) ?_
    refine AllReadyH.cons rfl (fun K2 hK => ?_) (AllReadyH.nil)
    go_simp
    go_at_call 27; refine (HCE.out _).mono ?_; rintro e v2 ⟨N, mb, rfl, ⟨n2, m2⟩, hR, hBD, hmb, h2⟩
    have B2 := B1.trans (h2.mono b1)
    have r2 := r1.below h2 r1.lt
    have b2 := B2.size
    clear h2
    refine hK.out _ _ (HS.out _ B2) (fun hHeld => ?_)
    clear hK K2
    (try simp only [Act.put, List.setIfInBounds_toArray, List.set_cons_zero, List.set_cons_succ])
    refine wpAnyH_ready (rs := [3]) (by kernel_rfl) (by simp) ?_
    refine AllReadyH.cons rfl (fun K2 hK => ?_) (AllReadyH.nil)
    go_simp
    go_at_call 28; refine (HLY.out _).mono ?_; rintro e v3 ⟨rfl, h3⟩
    have B3 := B2.trans (h3.mono b2)
    have m3 := m2.below h3 m2.lt
    have r3 := r2.below h3 r2.lt
    have b3 := B3.size
    clear h3
    refine hK.out _ _ (HS.out _ B3) (fun hHeld => ?_)
    clear hK K2
    (try simp only [Act.put, List.setIfInBounds_toArray, List.set_cons_zero, List.set_cons_succ])
    refine wpAnyH_ready (rs := [4]) (by kernel_rfl) (by simp) ?_
    refine AllReadyH.cons rfl (fun K2 hK => ?_) (AllReadyH.nil)
    obtain ⟨V, hV⟩ : ∃ V, Hid (V = arrE (N X Y)) := ⟨_, rfl⟩
    have hlk := HLK.out _ _ _ _ V hV.out m3
    go_simp
    have B4 := B3
    have b4 := B4.size
    clear hlk
    have r4 := r3
    have m4 := m3
    refine hK.out _ _ (HS.out _ B4) (fun hHeld => ?_)
    clear hK K2
    (try simp only [Act.put, List.setIfInBounds_toArray, List.set_cons_zero, List.set_cons_succ])
    refine wpAnyH_ready (rs := [6]) (by kernel_rfl) (by simp) ?_
    refine AllReadyH.cons rfl (fun K2 hK => ?_) (AllReadyH.nil)
    refine step_store_rowC rfl 50 (.tmp 5) (.tmp 20) rfl g V rfl rfl _ (arrE fun _ => 0) r4 (HI.out _ _ hV.out).1 ((size_arrE _).trans (HI.out _ _ hV.out).2.1.symm) (HI.out _ _ hV.out).2.2 ?_
    obtain ⟨v5, ew, r5, B5⟩ := HSTO.out _ g _ _ V hV.out B4 lg r4
    rw [← ew]
    clear ew
    refine hK.out _ _ (HS.out _ B5) (fun hHeld => ?_)
    clear hK K2
    (try simp only [Act.put, List.setIfInBounds_toArray, List.set_cons_zero, List.set_cons_succ])
    refine wpAnyH_done (by kernel_rfl) ?_ _
    exact HT.out g mb N V _ hR r5 lg B5
end Go.Proofs.Ytobncknlipeinaa
