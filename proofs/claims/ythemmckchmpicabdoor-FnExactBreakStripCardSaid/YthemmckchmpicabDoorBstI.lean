/-
  Contracts: the strips behind a move, of the program: made, and why it cannot be made. Condition: where the program has laid its errors.
-/
import Derived.Test.YthemmckchmpicabDoorBst
import Derived.Test.YthemmckchmpicabDoorRegA
namespace Go.Proofs.YthemmckchmpicabDoor
open Go.RowKit
set_option linter.unusedVariables false
set_option linter.unusedSimpArgs false

/-- the three errors are the first package variables (numbers 0 to 2): what lies below a world of three blocks keeps them -/
theorem LikeAt.later3 {w w' : World} {a0 : Addr} {B : Nat} (h : LikeAt w a0) (hb : Below B w w') (hB : 3 ≤ B) : LikeAt w' a0 :=
  (hb.cell (p := ⟨0, 0, none⟩) (Nat.lt_of_lt_of_le (by decide) hB)).trans h
def LaidB (w : World) (a0 : Addr) : Prop := LikeAt w a0 ∧ (∃ aR aS, w.cell? ⟨1, 0, none⟩ = some (.iface 102 (.pointer (some aR))) ∧ w.cell? ⟨2, 0, none⟩ = some (.iface 102 (.pointer (some aS)))) ∧ 3 ≤ w.heap.size
theorem LaidB.later {w w' : World} {a0 : Addr} {B : Nat} (h : LaidB w a0) (hb : Below B w w') (hB : 3 ≤ B) (hw : 3 ≤ w'.heap.size) : LaidB w' a0 := by
  obtain ⟨h1, ⟨aR, aS, h2, h3⟩, h4⟩ := h
  exact ⟨h1.later3 hb hB, ⟨aR, aS, (hb.cell (p := ⟨1, 0, none⟩) (Nat.lt_of_lt_of_le (by decide) hB)).trans h2, (hb.cell (p := ⟨2, 0, none⟩) (Nat.lt_of_lt_of_le (by decide) hB)).trans h3⟩, hw⟩

set_option maxRecDepth 100000 in
set_option maxHeartbeats 2000000 in
theorem mvs_room (A : Option Addr) (n c : Nat) (i t l : Int) (u : Bool) (w : World) (aR : Addr) (hR : w.cell? ⟨1, 0, none⟩ = some (.iface 102 (.pointer (some aR)))) (hw : 3 ≤ w.heap.size) (h8 : n = 8) :
    Calls Tryd.prog 45 #[.slice A n c, .int .i64 i, .int .i64 t, rul l u] w fun e w' => e = .panicked [{ v := .iface 102 (.pointer (some aR)), recovered := false }] ∧ Below w.heap.size w w' := by
  have hc : (w.alloc (.cells #[.int .i64 l, .bool u] 50)).cell? ⟨1, 0, none⟩ = some (.iface 102 (.pointer (some aR))) := (World.cell?_alloc_lt _ _ ⟨1, 0, none⟩ (Nat.lt_of_lt_of_le (by decide) hw)).trans hR
  have t8 : ((n : Int) == 8) = true := by simp [h8]
  clear h8
  go_enter Tryd.func45, Tryd.ntmps45
  go_wp2
  exact ⟨rfl, rfl, by (repeat (first | (with_reducible exact Below.refl _ _) | (with_reducible assumption) | (with_reducible refine Below.drew ?_) | ((with_reducible refine balloc ?_ _ ?_); · (first | (simp; done) | (simp; omega) | omega)) | ((with_reducible refine bset ?_ _ ?_); · (first | (simp; done) | (simp; omega) | omega)) | (with_reducible refine bdrewN _ ?_) | ((with_reducible refine bcall ?_ (by assumption) ?_); · (first | (simp; done) | (simp; omega) | omega))))⟩

set_option maxRecDepth 100000 in
set_option maxHeartbeats 2000000 in
theorem mvs_none (A : Option Addr) (n c : Nat) (i t l : Int) (u : Bool) (w : World) (aS : Addr) (hR : w.cell? ⟨2, 0, none⟩ = some (.iface 102 (.pointer (some aS)))) (hw : 3 ≤ w.heap.size) (h8 : n ≠ 8) (hi : ¬ (0 ≤ i ∧ i < (n : Int))) :
    Calls Tryd.prog 45 #[.slice A n c, .int .i64 i, .int .i64 t, rul l u] w fun e w' => e = .panicked [{ v := .iface 102 (.pointer (some aS)), recovered := false }] ∧ Below w.heap.size w w' := by
  have hc : (w.alloc (.cells #[.int .i64 l, .bool u] 50)).cell? ⟨2, 0, none⟩ = some (.iface 102 (.pointer (some aS))) := (World.cell?_alloc_lt _ _ ⟨2, 0, none⟩ (Nat.lt_of_lt_of_le (by decide) hw)).trans hR
  have t8 : ((n : Int) == 8) = false := by simp; omega
  clear h8
  by_cases h0 : i < 0
  · have d0 : decide (i < 0) = true := decide_eq_true h0
    clear hi
    go_enter Tryd.func45, Tryd.ntmps45
    go_wp2
    exact ⟨rfl, rfl, by (repeat (first | (with_reducible exact Below.refl _ _) | (with_reducible assumption) | (with_reducible refine Below.drew ?_) | ((with_reducible refine balloc ?_ _ ?_); · (first | (simp; done) | (simp; omega) | omega)) | ((with_reducible refine bset ?_ _ ?_); · (first | (simp; done) | (simp; omega) | omega)) | (with_reducible refine bdrewN _ ?_) | ((with_reducible refine bcall ?_ (by assumption) ?_); · (first | (simp; done) | (simp; omega) | omega))))⟩
  · have d0 : decide (i < 0) = false := decide_eq_false h0
    have d1 : decide ((n : Int) ≤ i) = true := decide_eq_true (by omega)
    clear hi
    go_enter Tryd.func45, Tryd.ntmps45
    go_wp2
    exact ⟨rfl, rfl, by (repeat (first | (with_reducible exact Below.refl _ _) | (with_reducible assumption) | (with_reducible refine Below.drew ?_) | ((with_reducible refine balloc ?_ _ ?_); · (first | (simp; done) | (simp; omega) | omega)) | ((with_reducible refine bset ?_ _ ?_); · (first | (simp; done) | (simp; omega) | omega)) | (with_reducible refine bdrewN _ ?_) | ((with_reducible refine bcall ?_ (by assumption) ?_); · (first | (simp; done) | (simp; omega) | omega))))⟩

set_option maxRecDepth 100000 in
set_option maxHeartbeats 2000000 in
theorem mvs_parts (b o n c I : Nat) (x t l : Int) (u : Bool) (T : TypeId) (pv : Value) (w : World) (p0 : w.cell? ⟨b, o + I, none⟩ = some (.int .i64 x)) (hb : b < w.heap.size) (h8 : n ≠ 8) (hI : I < n)
    (hq : ∀ wx, Below w.heap.size w wx → Calls Tryd.prog 50 #[.int .i64 x, .int .i64 t, rul l u] wx fun e w' => e = .panicked [{ v := .iface T pv, recovered := false }] ∧ Below wx.heap.size wx w') :
    Calls Tryd.prog 45 #[.slice (some ⟨b, o, none⟩) n c, .int .i64 I, .int .i64 t, rul l u] w fun e w' => e = .panicked [{ v := .iface T pv, recovered := false }] ∧ Below w.heap.size w w' := by
  have t8 : ((n : Int) == 8) = false := by simp; omega
  have d0 : decide ((I : Int) < 0) = false := decide_eq_false (by omega)
  have d1 : decide ((n : Int) ≤ (I : Int)) = false := decide_eq_false (by omega)
  have y1 : (I : Int) < (n : Int) := by omega
  have y2 : (0 : Int) ≤ (I : Int) := by omega
  have p1 : (w.alloc (.cells #[.int .i64 l, .bool u] 50)).cell? ⟨b, o + I, none⟩ = some (.int .i64 x) := (World.cell?_alloc_lt _ _ ⟨b, o + I, none⟩ hb).trans p0
  have c1 : (w.alloc (.cells #[.int .i64 l, .bool u] 50)).cell? ⟨w.heap.size, 0, none⟩ = some (.int .i64 l) := by simp [go_sem]
  have c2 : (w.alloc (.cells #[.int .i64 l, .bool u] 50)).cell? ⟨w.heap.size, 1, none⟩ = some (.bool u) := by simp [go_sem]
  have HQ := Lib.hid hq
  have bw : Below w.heap.size w (w.alloc (.cells #[.int .i64 l, .bool u] 50)).drew := Below.drew (by (repeat (first | (with_reducible exact Below.refl _ _) | (with_reducible assumption) | (with_reducible refine Below.drew ?_) | ((with_reducible refine balloc ?_ _ ?_); · (first | (simp; done) | (simp; omega) | omega)) | ((with_reducible refine bset ?_ _ ?_); · (first | (simp; done) | (simp; omega) | omega)) | (with_reducible refine bdrewN _ ?_) | ((with_reducible refine bcall ?_ (by assumption) ?_); · (first | (simp; done) | (simp; omega) | omega)))))
  clear h8 hq
  go_enter Tryd.func45, Tryd.ntmps45
  go_wp2
  refine wp_region_held_drew (S := (fun w' => w'.cell? ⟨b, o + I, none⟩ = some (.int .i64 x) ∧ w'.cell? ⟨w.heap.size, 0, none⟩ = some (.int .i64 l) ∧ w'.cell? ⟨w.heap.size, 1, none⟩ = some (.bool u))) (by kernel_rfl) ?_ (fun hHeld => ?_)
  · ((try dsimp only); (repeat' apply And.intro); all_goals ((repeat (first | (with_reducible refine cell_drew ?_) | (with_reducible refine cell_drewN _ ?_) | ((with_reducible refine cell_alloc ?_ ?_); · first | omega | (simp; done) | (simp; omega) | assumption) | ((with_reducible refine cell_set ?_ ?_); · first | (intro e; injection e; omega) | (intro e; simp at e; done) | (intro e; simp at e; omega)))); first | assumption | (simp; done)))
  refine reg_on (i := 0) (d := 23) (v := ?rv1) rfl rfl (by kernel_rfl) (by kernel_rfl) (by kernel_rfl) (fun _ _ _ h => h) (by rfl) ?ry1 (by assumption) ?rr1
  case ry1 => (intro wz hSw; (try dsimp only at hSw); go_simp; try with_reducible rfl)
  (try simp only [Act.put, List.setIfInBounds_toArray, List.set_cons_zero, List.set_cons_succ])
  refine reg_on (i := 1) (d := 24) (v := ?rv2) rfl rfl (by kernel_rfl) (by kernel_rfl) (by kernel_rfl) (fun _ _ _ h => h) (by rfl) ?ry2 (by assumption) ?rr2
  case ry2 => (intro wz hSw; (try dsimp only at hSw); go_simp; try with_reducible rfl)
  (try simp only [Act.put, List.setIfInBounds_toArray, List.set_cons_zero, List.set_cons_succ])
  refine reg_on (i := 2) (d := 25) (v := ?rv3) rfl rfl (by kernel_rfl) (by kernel_rfl) (by kernel_rfl) (fun _ _ _ h => h) (by rfl) ?ry3 (by assumption) ?rr3
  case ry3 => (intro wz hSw; (try dsimp only at hSw); go_simp; try with_reducible rfl)
  (try simp only [Act.put, List.setIfInBounds_toArray, List.set_cons_zero, List.set_cons_succ])
  refine reg_on (i := 3) (d := 26) (v := ?rv4) rfl rfl (by kernel_rfl) (by kernel_rfl) (by kernel_rfl) (fun _ _ _ h => h) (by rfl) ?ry4 (by assumption) ?rr4
  case ry4 => (intro wz hSw; (try dsimp only at hSw); go_simp; try with_reducible rfl)
  (try simp only [Act.put, List.setIfInBounds_toArray, List.set_cons_zero, List.set_cons_succ])
  refine reg_on (i := 4) (d := 27) (v := ?rv5) rfl rfl (by kernel_rfl) (by kernel_rfl) (by kernel_rfl) (fun _ _ _ h => h) (by rfl) ?ry5 (by assumption) ?rr5
  case ry5 => (intro wz hSw; (try dsimp only at hSw); go_simp; try with_reducible rfl)
  (try simp only [Act.put, List.setIfInBounds_toArray, List.set_cons_zero, List.set_cons_succ])
  refine reg_on (i := 5) (d := 28) (v := ?rv6) rfl rfl (by kernel_rfl) (by kernel_rfl) (by kernel_rfl) (fun _ _ _ h => h) (by rfl) ?ry6 (by assumption) ?rr6
  case ry6 => (intro wz hSw; (try dsimp only at hSw); go_simp; try with_reducible rfl)
  (try simp only [Act.put, List.setIfInBounds_toArray, List.set_cons_zero, List.set_cons_succ])
  refine wpAnyH_ready (rs := [6]) (by kernel_rfl) (by simp) ?_
  refine AllReadyH.cons rfl (fun K hK => ?_) AllReadyH.nil
  go_simp
  go_at_call 50; refine (HQ.out _ (by assumption)).mono ?_; rintro e w1 ⟨rfl, hb1⟩
  exact ⟨rfl, rfl, bw.trans (hb1.mono bw.size)⟩

set_option maxRecDepth 100000 in
set_option maxHeartbeats 4000000 in
theorem mvs_ok (b o n c I : Nat) (L : List Int) (x t l : Int) (u : Bool) (w : World) (hr : Rd w 1 (some ⟨b, o, none⟩) n (intCells L)) (hb : b < w.heap.size) (hx : I < L.length) (hxx : L[I] = x) (hn8 : n < 8) (hw60 : x ≤ 60) (ht1 : 1 ≤ t) (ht2 : t ≤ 60)
    (hq : ∀ wx, Calls Tryd.prog 50 #[.int .i64 x, .int .i64 t, rul l u] wx fun e w' => e = .returned (.tuple #[]) ∧ Below wx.heap.size wx w') (hx0 : 1 ≤ x) :
    Calls Tryd.prog 45 #[.slice (some ⟨b, o, none⟩) n c, .int .i64 I, .int .i64 t, rul l u] w fun e w' => ∃ A' c', e = .returned (.slice A' (n + 1) c') ∧ w'.ownsRow w.heap.size 3 1 (.slice A' (n + 1) c') (n + 1) (intCells (L.set I t ++ [x - t])) ∧ Below w.heap.size w w' := by
  obtain ⟨i0, hi0, hz0, hz1, hz2⟩ := info_parts intS_info
  have hll := hr.ilen
  have hI : I < n := by omega
  have t8 : ((n : Int) == 8) = false := by simp; omega
  have d0 : decide ((I : Int) < 0) = false := decide_eq_false (by omega)
  have d1 : decide ((n : Int) ≤ (I : Int)) = false := decide_eq_false (by omega)
  have y1 : (I : Int) < (n : Int) := by omega
  have y2 : (0 : Int) ≤ (I : Int) := by omega
  obtain ⟨q, hqq⟩ : ∃ q, x - t = q := ⟨_, rfl⟩
  have wsub : IntKind.i64.wrap (x - t) = q := by rw [← hqq]; exact IntWalk.i64_in _ (by omega)
  have HQQ := Lib.hid hqq
  clear hqq
  have p0 : w.cell? ⟨b, o + I, none⟩ = some (.int .i64 x) := by
    obtain ⟨b', o', e, _, _, p⟩ := hr.num hI
    simp only [Option.some.injEq, Addr.mk.injEq, and_true] at e
    obtain ⟨rfl, rfl⟩ := e
    rw [← hxx]; exact p
  have p1 : (w.alloc (.cells #[.int .i64 l, .bool u] 50)).cell? ⟨b, o + I, none⟩ = some (.int .i64 x) := (World.cell?_alloc_lt _ _ ⟨b, o + I, none⟩ hb).trans p0
  have c1 : (w.alloc (.cells #[.int .i64 l, .bool u] 50)).cell? ⟨w.heap.size, 0, none⟩ = some (.int .i64 l) := by simp [go_sem]
  have c2 : (w.alloc (.cells #[.int .i64 l, .bool u] 50)).cell? ⟨w.heap.size, 1, none⟩ = some (.bool u) := by simp [go_sem]
  have HQ := Lib.hid hq
  have bw : Below w.heap.size w (w.alloc (.cells #[.int .i64 l, .bool u] 50)).drew := Below.drew (by (repeat (first | (with_reducible exact Below.refl _ _) | (with_reducible assumption) | (with_reducible refine Below.drew ?_) | ((with_reducible refine balloc ?_ _ ?_); · (first | (simp; done) | (simp; omega) | omega)) | ((with_reducible refine bset ?_ _ ?_); · (first | (simp; done) | (simp; omega) | omega)) | (with_reducible refine bdrewN _ ?_) | ((with_reducible refine bcall ?_ (by assumption) ?_); · (first | (simp; done) | (simp; omega) | omega)))))
  have BW := Lib.hid bw
  have HCL := Lib.hid (fun wx (hrx : Rd wx 1 (some ⟨b, o, none⟩) n (intCells L)) => slCloneI_any (some ⟨b, o, none⟩) n c L wx hrx (by omega) (by omega))
  have HLL := Lib.hid hll
  have hc3 : n + 1 ≤ maxLen := by simp only [maxLen]; omega
  have hc4 : (n + 1) * 8 ≤ 140737488355328 := by omega
  clear hq bw hll hxx
  go_enter Tryd.func45, Tryd.ntmps45
  go_wp2
  refine wp_region_held_drew (S := (fun w' => w'.cell? ⟨b, o + I, none⟩ = some (.int .i64 x) ∧ w'.cell? ⟨w.heap.size, 0, none⟩ = some (.int .i64 l) ∧ w'.cell? ⟨w.heap.size, 1, none⟩ = some (.bool u))) (by kernel_rfl) ?_ (fun hHeld => ?_)
  · ((try dsimp only); (repeat' apply And.intro); all_goals ((repeat (first | (with_reducible refine cell_drew ?_) | (with_reducible refine cell_drewN _ ?_) | ((with_reducible refine cell_alloc ?_ ?_); · first | omega | (simp; done) | (simp; omega) | assumption) | ((with_reducible refine cell_set ?_ ?_); · first | (intro e; injection e; omega) | (intro e; simp at e; done) | (intro e; simp at e; omega)))); first | assumption | (simp; done)))
  refine reg_on (i := 0) (d := 23) (v := ?rv7) rfl rfl (by kernel_rfl) (by kernel_rfl) (by kernel_rfl) (fun _ _ _ h => h) (by rfl) ?ry7 (by assumption) ?rr7
  case ry7 => (intro wz hSw; (try dsimp only at hSw); go_simp; try with_reducible rfl)
  (try simp only [Act.put, List.setIfInBounds_toArray, List.set_cons_zero, List.set_cons_succ])
  refine reg_on (i := 1) (d := 24) (v := ?rv8) rfl rfl (by kernel_rfl) (by kernel_rfl) (by kernel_rfl) (fun _ _ _ h => h) (by rfl) ?ry8 (by assumption) ?rr8
  case ry8 => (intro wz hSw; (try dsimp only at hSw); go_simp; try with_reducible rfl)
  (try simp only [Act.put, List.setIfInBounds_toArray, List.set_cons_zero, List.set_cons_succ])
  refine reg_on (i := 2) (d := 25) (v := ?rv9) rfl rfl (by kernel_rfl) (by kernel_rfl) (by kernel_rfl) (fun _ _ _ h => h) (by rfl) ?ry9 (by assumption) ?rr9
  case ry9 => (intro wz hSw; (try dsimp only at hSw); go_simp; try with_reducible rfl)
  (try simp only [Act.put, List.setIfInBounds_toArray, List.set_cons_zero, List.set_cons_succ])
  refine reg_on (i := 3) (d := 26) (v := ?rv10) rfl rfl (by kernel_rfl) (by kernel_rfl) (by kernel_rfl) (fun _ _ _ h => h) (by rfl) ?ry10 (by assumption) ?rr10
  case ry10 => (intro wz hSw; (try dsimp only at hSw); go_simp; try with_reducible rfl)
  (try simp only [Act.put, List.setIfInBounds_toArray, List.set_cons_zero, List.set_cons_succ])
  refine reg_on (i := 4) (d := 27) (v := ?rv11) rfl rfl (by kernel_rfl) (by kernel_rfl) (by kernel_rfl) (fun _ _ _ h => h) (by rfl) ?ry11 (by assumption) ?rr11
  case ry11 => (intro wz hSw; (try dsimp only at hSw); go_simp; try with_reducible rfl)
  (try simp only [Act.put, List.setIfInBounds_toArray, List.set_cons_zero, List.set_cons_succ])
  refine reg_on (i := 5) (d := 28) (v := ?rv12) rfl rfl (by kernel_rfl) (by kernel_rfl) (by kernel_rfl) (fun _ _ _ h => h) (by rfl) ?ry12 (by assumption) ?rr12
  case ry12 => (intro wz hSw; (try dsimp only at hSw); go_simp; try with_reducible rfl)
  (try simp only [Act.put, List.setIfInBounds_toArray, List.set_cons_zero, List.set_cons_succ])
  refine wpAnyH_ready (rs := [6]) (by kernel_rfl) (by simp) ?_
  refine AllReadyH.cons rfl (fun K hK => ?_) AllReadyH.nil
  go_simp
  go_at_call 50; refine (HQ.out _).mono ?_; rintro e w1 ⟨rfl, hb1⟩; have s1 := hb1.size; (try simp at s1); have d1_0 : w1.cell? ⟨b, o + I, none⟩ = some (.int .i64 x) := (hb1.cell (p := ⟨b, o + I, none⟩) (by first | (simp; done) | (simp; omega) | omega)).trans (by first | assumption | (go_split_ands; assumption)); have d1_1 : w1.cell? ⟨w.heap.size, 0, none⟩ = some (.int .i64 l) := (hb1.cell (p := ⟨w.heap.size, 0, none⟩) (by first | (simp; done) | (simp; omega) | omega)).trans (by first | assumption | (go_split_ands; assumption)); have d1_2 : w1.cell? ⟨w.heap.size, 1, none⟩ = some (.bool u) := (hb1.cell (p := ⟨w.heap.size, 1, none⟩) (by first | (simp; done) | (simp; omega) | omega)).trans (by first | assumption | (go_split_ands; assumption))
  refine hK.out _ _ ?_ (fun hHeld => ?_)
  · ((try dsimp only); (repeat' apply And.intro); all_goals ((repeat (first | (with_reducible refine cell_drew ?_) | (with_reducible refine cell_drewN _ ?_) | ((with_reducible refine cell_alloc ?_ ?_); · first | omega | (simp; done) | (simp; omega) | assumption) | ((with_reducible refine cell_set ?_ ?_); · first | (intro e; injection e; omega) | (intro e; simp at e; done) | (intro e; simp at e; omega)))); first | assumption | (simp; done)))
  clear hK K
  (try simp only [Act.put, List.setIfInBounds_toArray, List.set_cons_zero, List.set_cons_succ])
  refine wpAnyH_done (by kernel_rfl) ?_ _
  have hb01 : Below w.heap.size w w1 := BW.out.trans (hb1.mono BW.out.size)
  have HR1 := Lib.hid (hr.later hb01 (Nat.le_refl _))
  have hsz1 : w.heap.size ≤ w1.heap.size := hb01.size
  have hbl1 : b < w1.heap.size := by omega
  have HB01 := Lib.hid hb01
  clear c1 c2 p1 d1_1 d1_2 hb1 hb01 BW
  go_wp2
  refine wp_region_held_drew (S := (fun w' => w'.cell? ⟨b, o + I, none⟩ = some (.int .i64 x))) (by kernel_rfl) ?_ (fun hHeld => ?_)
  · ((try dsimp only); (repeat' apply And.intro); all_goals ((repeat (first | (with_reducible refine cell_drew ?_) | (with_reducible refine cell_drewN _ ?_) | ((with_reducible refine cell_alloc ?_ ?_); · first | omega | (simp; done) | (simp; omega) | assumption) | ((with_reducible refine cell_set ?_ ?_); · first | (intro e; injection e; omega) | (intro e; simp at e; done) | (intro e; simp at e; omega)))); first | assumption | (simp; done)))
  refine reg_on (i := 0) (d := 30) (v := ?rv14) rfl rfl (by kernel_rfl) (by kernel_rfl) (by kernel_rfl) (fun _ _ _ h => h) (by rfl) ?ry14 (by assumption) ?rr14
  case ry14 => (intro wz hSw; (try dsimp only at hSw); go_simp; try with_reducible rfl)
  (try simp only [Act.put, List.setIfInBounds_toArray, List.set_cons_zero, List.set_cons_succ])
  refine reg_on (i := 2) (d := 32) (v := ?rv15) rfl rfl (by kernel_rfl) (by kernel_rfl) (by kernel_rfl) (fun _ _ _ h => h) (by rfl) ?ry15 (by assumption) ?rr15
  case ry15 => (intro wz hSw; (try dsimp only at hSw); go_simp; try with_reducible rfl)
  (try simp only [Act.put, List.setIfInBounds_toArray, List.set_cons_zero, List.set_cons_succ])
  refine reg_on (i := 3) (d := 33) (v := ?rv16) rfl rfl (by kernel_rfl) (by kernel_rfl) (by kernel_rfl) (fun _ _ _ h => h) (by rfl) ?ry16 (by assumption) ?rr16
  case ry16 => (intro wz hSw; (try dsimp only at hSw); go_simp; try with_reducible rfl)
  (try simp only [Act.put, List.setIfInBounds_toArray, List.set_cons_zero, List.set_cons_succ])
  refine reg_on (i := 4) (d := 34) (v := ?rv17) rfl rfl (by kernel_rfl) (by kernel_rfl) (by kernel_rfl) (fun _ _ _ h => h) (by rfl) ?ry17 (by assumption) ?rr17
  case ry17 => (intro wz hSw; (try dsimp only at hSw); go_simp; try with_reducible rfl)
  (try simp only [Act.put, List.setIfInBounds_toArray, List.set_cons_zero, List.set_cons_succ])
  refine reg_on (i := 5) (d := 35) (v := ?rv18) rfl rfl (by kernel_rfl) (by kernel_rfl) (by kernel_rfl) (fun _ _ _ h => h) (by rfl) ?ry18 (by assumption) ?rr18
  case ry18 => (intro wz hSw; (try dsimp only at hSw); go_simp; try with_reducible rfl)
  (try simp only [Act.put, List.setIfInBounds_toArray, List.set_cons_zero, List.set_cons_succ])
  refine reg_on (i := 6) (d := 36) (v := ?rv19) rfl rfl (by kernel_rfl) (by kernel_rfl) (by kernel_rfl) (fun _ _ _ h => h) (by rfl) ?ry19 (by assumption) ?rr19
  case ry19 => (intro wz hSw; (try dsimp only at hSw); go_simp; try with_reducible rfl)
  (try simp only [Act.put, List.setIfInBounds_toArray, List.set_cons_zero, List.set_cons_succ])
  refine reg_on (i := 7) (d := 37) (v := ?rv20) rfl rfl (by kernel_rfl) (by kernel_rfl) (by kernel_rfl) (fun _ _ _ h => h) (by rfl) ?ry20 (by assumption) ?rr20
  case ry20 => (intro wz hSw; (try dsimp only at hSw); go_simp; try with_reducible rfl)
  (try simp only [Act.put, List.setIfInBounds_toArray, List.set_cons_zero, List.set_cons_succ])
  refine wpAnyH_ready (rs := [1, 8]) (by kernel_rfl) (by simp) ?_
  refine AllReadyH.cons rfl (fun K hK => ?_) (AllReadyH.cons rfl (fun K hK => ?_) AllReadyH.nil)
  · go_simp
    go_at_call 54; refine (HCL.out _ (by exact HR1.out)).mono ?_; rintro e w2 ⟨A2, cA, rfl, own2, hb2⟩
    have own2 : w2.ownsRow w1.heap.size 3 1 (.slice A2 n cA) n (intCells L) := own2
    have hb2 : Below w1.heap.size w1 w2 := (Below.refl w1.heap.size w1).drew.trans hb2
    have s2 := hb2.size
    have e2 : w2.cell? ⟨b, o + I, none⟩ = some (.int .i64 x) := (hb2.cell (p := ⟨b, o + I, none⟩) hbl1).trans d1_0
    refine hK.out _ _ ?_ (fun hHeld => ?_)
    · exact e2
    clear hK K
    (try simp only [Act.put, List.setIfInBounds_toArray, List.set_cons_zero, List.set_cons_succ])
    refine wpAnyH_ready (rs := [8]) (by kernel_rfl) (by simp) ?_
    refine AllReadyH.cons rfl (fun K hK => ?_) AllReadyH.nil
    go_simp
    refine hK.out _ _ ?_ (fun hHeld => ?_)
    · ((try dsimp only); (repeat' apply And.intro); all_goals ((repeat (first | (with_reducible refine cell_drew ?_) | (with_reducible refine cell_drewN _ ?_) | ((with_reducible refine cell_alloc ?_ ?_); · first | omega | (simp; done) | (simp; omega) | assumption) | ((with_reducible refine cell_set ?_ ?_); · first | (intro e; injection e; omega) | (intro e; simp at e; done) | (intro e; simp at e; omega)))); first | assumption | (simp; done)))
    clear hK K
    (try simp only [Act.put, List.setIfInBounds_toArray, List.set_cons_zero, List.set_cons_succ])
    refine wpAnyH_ready (rs := [9]) (by kernel_rfl) (by simp) ?_
    refine AllReadyH.cons rfl (fun K hK => ?_) AllReadyH.nil
    refine step_append_own rfl (.tmp 31) (.tmp 38) 22 rfl w1.heap.size 3 i0 (.int .i64 0) 1 8 Tryd.underlying22 hi0 hz0 hz1 hz2 rfl (by decide) _ _ _ rfl (own2.alloc (.cells #[.int .i64 q] 3)) ⟨w2.heap.size, 0, none⟩ 1 1 [.int .i64 q] rfl rfl (new1 w2 3 (.int .i64 q)) (int_oneCell [q]) hc3 hc4 (by simp; omega) ?_; intro v' w4 hown' hgrow _; have hb4' := bgrow (hb2.alloc s2 (.cells #[.int .i64 q] 3)) (own2.alloc (.cells #[.int .i64 q] 3)) hgrow (by simp; omega); have e4 : w4.cell? ⟨b, o + I, none⟩ = some (.int .i64 x) := (hb4'.cell (p := ⟨b, o + I, none⟩) hbl1).trans d1_0; have hb4 := HB01.out.trans (hb4'.mono hsz1)
    refine hK.out _ _ ?_ (fun hHeld => ?_)
    · ((try dsimp only); (repeat' apply And.intro); all_goals ((repeat (first | (with_reducible refine cell_drew ?_) | (with_reducible refine cell_drewN _ ?_) | ((with_reducible refine cell_alloc ?_ ?_); · first | omega | (simp; done) | (simp; omega) | assumption) | ((with_reducible refine cell_set ?_ ?_); · first | (intro e; injection e; omega) | (intro e; simp at e; done) | (intro e; simp at e; omega)))); first | assumption | (simp; done)))
    clear hK K
    (try simp only [Act.put, List.setIfInBounds_toArray, List.set_cons_zero, List.set_cons_succ])
    refine reg_on (i := 10) (d := 9) (v := ?rv23) rfl rfl (by kernel_rfl) (by kernel_rfl) (by kernel_rfl) (fun _ _ _ h => h) (by rfl) ?ry23 (by assumption) ?rr23
    case ry23 => (intro wz hSw; (try dsimp only at hSw); go_simp; try with_reducible rfl)
    (try simp only [Act.put, List.setIfInBounds_toArray, List.set_cons_zero, List.set_cons_succ])
    refine wpAnyH_done (by kernel_rfl) ?_ _
    clear e4 e2 hb4' hb2 own2 d1_0
    obtain ⟨A', c', rfl⟩ := own_slice hown'
    obtain ⟨g, rfl, hg1, hg2⟩ := own_at hown' (by omega)
    have a0 := hown'.cellAt I (by omega)
    obtain ⟨v0, hv0⟩ : ∃ v0, (intCells L ++ [Value.int .i64 q])[I]? = some v0 := ⟨_, List.getElem?_eq_getElem (by simp [length_intCells]; omega)⟩
    rw [hv0] at a0
    have f0 := hown'.frozenAt I
    have st := (hown'.stored I (.int .i64 t)).1
    rw [show intCells L ++ [Value.int .i64 q] = intCells (L ++ [q]) from by simp [intCells], set_intCells, List.set_append_left _ _ hx] at st
    have ST := Lib.hid st
    have HB5 := Lib.hid (bset (p := ⟨g, I, none⟩) (by show w.heap.size ≤ g; omega) (.int .i64 t) hb4)
    clear hv0 hown' hgrow st hb4
    go_wp2
    go_ret
    exact ⟨some ⟨g, 0, none⟩, c', rfl, by rw [HQQ.out]; exact own_base ST.out (by omega), HB5.out⟩
  · go_simp
    have n1 : ∀ (j : Nat) (z : Value), [Value.int .i64 q][j]? = some z → (w1.alloc (.cells #[.int .i64 q] 3)).drew.cell? ((⟨w1.heap.size, 0, none⟩ : Addr).add j) = some z := new1 w1 3 (.int .i64 q)
    have e1 : (w1.alloc (.cells #[.int .i64 q] 3)).drew.cell? ⟨b, o + I, none⟩ = some (.int .i64 x) := (World.cell?_alloc_lt _ _ ⟨b, o + I, none⟩ hbl1).trans d1_0
    have HRA := Lib.hid (HR1.out.alloc (.cells #[.int .i64 q] 3))
    have hbA : Below w1.heap.size w1 (w1.alloc (.cells #[.int .i64 q] 3)).drew := ((Below.refl w1.heap.size w1).alloc (Nat.le_refl _) _).drew
    have szA : (w1.alloc (.cells #[.int .i64 q] 3)).drew.heap.size = w1.heap.size + 1 := by show (w1.alloc (.cells #[.int .i64 q] 3)).heap.size = _; simp
    refine hK.out _ _ ?_ (fun hHeld => ?_)
    · exact e1
    clear hK K
    (try simp only [Act.put, List.setIfInBounds_toArray, List.set_cons_zero, List.set_cons_succ])
    refine wpAnyH_ready (rs := [1]) (by kernel_rfl) (by simp) ?_
    refine AllReadyH.cons rfl (fun K hK => ?_) AllReadyH.nil
    go_simp
    go_at_call 54; refine (HCL.out _ (by exact HRA.out)).mono ?_; rintro e w2 ⟨A2, cA, rfl, own2, hb2⟩; have s2 : w1.heap.size + 1 ≤ w2.heap.size := (by have q := hb2.size; rw [szA] at q; exact q); have hb12 := hbA.trans (hb2.mono (by rw [szA]; omega)); have own2' := own_base own2 (B' := w1.heap.size) (by rw [szA]; omega); have e2 : w2.cell? ⟨b, o + I, none⟩ = some (.int .i64 x) := (hb12.cell (p := ⟨b, o + I, none⟩) hbl1).trans d1_0; have n2 : ∀ (j : Nat) (z : Value), [Value.int .i64 q][j]? = some z → w2.cell? ((⟨w1.heap.size, 0, none⟩ : Addr).add j) = some z := (fun j z hz => (hb2.cell (by rw [addr_add]; show w1.heap.size < _; rw [szA]; omega)).trans (n1 j z hz))
    refine hK.out _ _ ?_ (fun hHeld => ?_)
    · ((try dsimp only); (repeat' apply And.intro); all_goals ((repeat (first | (with_reducible refine cell_drew ?_) | (with_reducible refine cell_drewN _ ?_) | ((with_reducible refine cell_alloc ?_ ?_); · first | omega | (simp; done) | (simp; omega) | assumption) | ((with_reducible refine cell_set ?_ ?_); · first | (intro e; injection e; omega) | (intro e; simp at e; done) | (intro e; simp at e; omega)))); first | assumption | (simp; done)))
    clear hK K
    (try simp only [Act.put, List.setIfInBounds_toArray, List.set_cons_zero, List.set_cons_succ])
    refine wpAnyH_ready (rs := [9]) (by kernel_rfl) (by simp) ?_
    refine AllReadyH.cons rfl (fun K hK => ?_) AllReadyH.nil
    refine step_append_own rfl (.tmp 31) (.tmp 38) 22 rfl w1.heap.size 3 i0 (.int .i64 0) 1 8 Tryd.underlying22 hi0 hz0 hz1 hz2 rfl (by decide) _ _ _ rfl own2' ⟨w1.heap.size, 0, none⟩ 1 1 [.int .i64 q] rfl rfl n2 (int_oneCell [q]) hc3 hc4 (by omega) ?_; intro v' w4 hown' hgrow _; have hb4' := bgrow hb12 own2' hgrow (by omega); have e4 : w4.cell? ⟨b, o + I, none⟩ = some (.int .i64 x) := (hb4'.cell (p := ⟨b, o + I, none⟩) hbl1).trans d1_0; have hb4 := HB01.out.trans (hb4'.mono hsz1)
    refine hK.out _ _ ?_ (fun hHeld => ?_)
    · ((try dsimp only); (repeat' apply And.intro); all_goals ((repeat (first | (with_reducible refine cell_drew ?_) | (with_reducible refine cell_drewN _ ?_) | ((with_reducible refine cell_alloc ?_ ?_); · first | omega | (simp; done) | (simp; omega) | assumption) | ((with_reducible refine cell_set ?_ ?_); · first | (intro e; injection e; omega) | (intro e; simp at e; done) | (intro e; simp at e; omega)))); first | assumption | (simp; done)))
    clear hK K
    (try simp only [Act.put, List.setIfInBounds_toArray, List.set_cons_zero, List.set_cons_succ])
    refine reg_on (i := 10) (d := 9) (v := ?rv26) rfl rfl (by kernel_rfl) (by kernel_rfl) (by kernel_rfl) (fun _ _ _ h => h) (by rfl) ?ry26 (by assumption) ?rr26
    case ry26 => (intro wz hSw; (try dsimp only at hSw); go_simp; try with_reducible rfl)
    (try simp only [Act.put, List.setIfInBounds_toArray, List.set_cons_zero, List.set_cons_succ])
    refine wpAnyH_done (by kernel_rfl) ?_ _
    clear e4 e2 hb4' hb2 own2 own2' hb12 d1_0 n1 n2 e1
    obtain ⟨A', c', rfl⟩ := own_slice hown'
    obtain ⟨g, rfl, hg1, hg2⟩ := own_at hown' (by omega)
    have a0 := hown'.cellAt I (by omega)
    obtain ⟨v0, hv0⟩ : ∃ v0, (intCells L ++ [Value.int .i64 q])[I]? = some v0 := ⟨_, List.getElem?_eq_getElem (by simp [length_intCells]; omega)⟩
    rw [hv0] at a0
    have f0 := hown'.frozenAt I
    have st := (hown'.stored I (.int .i64 t)).1
    rw [show intCells L ++ [Value.int .i64 q] = intCells (L ++ [q]) from by simp [intCells], set_intCells, List.set_append_left _ _ hx] at st
    have ST := Lib.hid st
    have HB5 := Lib.hid (bset (p := ⟨g, I, none⟩) (by show w.heap.size ≤ g; omega) (.int .i64 t) hb4)
    clear hv0 hown' hgrow st hb4
    go_wp2
    go_ret
    exact ⟨some ⟨g, 0, none⟩, c', rfl, by rw [HQQ.out]; exact own_base ST.out (by omega), HB5.out⟩
theorem mvs_fail (A : Option Addr) (n c : Nat) (L : List Int) (i t l : Int) (u : Bool) (w : World) (a0 : Addr) (hL : LaidB w a0) (hr : Rd w 1 A n (intCells L)) (hk : okSS L l = true) (hb : bsB L i t l u = false) :
    ∃ T pv, IsErr T ∧ ∀ wx, Below w.heap.size w wx → Calls Tryd.prog 45 #[.slice A n c, .int .i64 i, .int .i64 t, rul l u] wx fun e w' => e = .panicked [{ v := .iface T pv, recovered := false }] ∧ Below wx.heap.size wx w' := by
  obtain ⟨h1, ⟨aR, aS, h2, h3⟩, h4⟩ := hL
  have hll := hr.ilen
  obtain ⟨hA, hl⟩ : areS L = true ∧ inB l 1 60 = true := by simpa [okSS] using hk
  obtain ⟨hn1, hn8, hall⟩ := areS_true hA
  obtain ⟨l1, l2⟩ := inB_true hl
  by_cases h8 : n = 8
  · exact ⟨_, _, isErrE, fun wx hw => mvs_room A n c i t l u wx aR ((hw.cell (p := ⟨1, 0, none⟩) (Nat.lt_of_lt_of_le (by decide) h4)).trans h2) (Nat.le_trans h4 hw.size) h8⟩
  · by_cases hi : 0 ≤ i ∧ i < (n : Int)
    · obtain ⟨I, rfl⟩ : ∃ I : Nat, i = I := ⟨i.toNat, by omega⟩
      obtain ⟨b, o, rfl, hbl, hx, p0⟩ := hr.num (show I < n by omega)
      obtain ⟨x1, x2⟩ := allS_at hall hx
      have hget : getS L I = L[I] := by simp [getS, hx]
      have hc : canS L[I] t l u = false := by
        have h7 : ¬ L.length = 8 := by omega
        simpa [bsB, hk, h7, hget, hx] using hb
      generalize L[I] = x at *
      by_cases hs : t < l ∨ x - l < t
      · exact ⟨_, _, isErrS, fun wx hw => mvs_parts b o n c I x t l u _ _ wx ((hw.cell (p := ⟨b, o + I, none⟩) hbl).trans p0) (Nat.lt_of_lt_of_le hbl hw.size) h8 (by omega) (fun wy _ => req_short x t l u wy x1 x2 l1 l2 hs)⟩
      · have h5 : l ≤ t ∧ l ≤ x - t := by omega
        have hu : u = true ∧ t + t = x := by simpa [canS, h5] using hc
        obtain ⟨rfl, htt⟩ := hu
        exact ⟨_, _, isErrE, fun wx hw => mvs_parts b o n c I x t l true _ _ wx ((hw.cell (p := ⟨b, o + I, none⟩) hbl).trans p0) (Nat.lt_of_lt_of_le hbl hw.size) h8 (by omega) (fun wy hy => req_like x t l a0 wy x1 x2 l1 l2 (by omega) (by omega) htt ((h1.later3 hw h4).later3 hy (Nat.le_trans h4 hw.size)))⟩
    · exact ⟨_, _, isErrE, fun wx hw => mvs_none A n c i t l u wx aS ((hw.cell (p := ⟨2, 0, none⟩) (Nat.lt_of_lt_of_le (by decide) h4)).trans h3) (Nat.le_trans h4 hw.size) h8 hi⟩

/-- the cells that a move of strips captures -/
def BmAt (w : World) (s : Nat) (A : Option Addr) (n c : Nat) (i t l : Int) (u : Bool) : Prop :=
  w.cell? ⟨s, 0, none⟩ = some (.slice A n c) ∧ w.cell? ⟨s + 1, 0, none⟩ = some (.int .i64 i) ∧ w.cell? ⟨s + 2, 0, none⟩ = some (.int .i64 t) ∧ w.cell? ⟨s + 3, 0, none⟩ = some (.int .i64 l) ∧ w.cell? ⟨s + 4, 0, none⟩ = some (.bool u)
theorem BmAt.later {w w' : World} {s : Nat} {A : Option Addr} {n c : Nat} {i t l : Int} {u : Bool} (h : BmAt w s A n c i t l u) {B : Nat} (hb : Below B w w') (h1 : s + 4 < B) : BmAt w' s A n c i t l u :=
  ⟨(hb.cell (p := ⟨s, 0, none⟩) (by show s < B; omega)).trans h.1, (hb.cell (p := ⟨s + 1, 0, none⟩) (by show s + 1 < B; omega)).trans h.2.1, (hb.cell (p := ⟨s + 2, 0, none⟩) (by show s + 2 < B; omega)).trans h.2.2.1, (hb.cell (p := ⟨s + 3, 0, none⟩) (by show s + 3 < B; omega)).trans h.2.2.2.1, (hb.cell (p := ⟨s + 4, 0, none⟩) h1).trans h.2.2.2.2⟩
abbrev bmCap (s : Nat) : Array Value := #[.pointer (some ⟨s, 0, none⟩), .pointer (some ⟨s + 1, 0, none⟩), .pointer (some ⟨s + 2, 0, none⟩), .pointer (some ⟨s + 3, 0, none⟩), .pointer (some ⟨s + 4, 0, none⟩), .pointer (some ⟨s + 5, 0, none⟩)]

set_option maxRecDepth 100000 in
set_option maxHeartbeats 2000000 in
theorem clo_fail (s : Nat) (A : Option Addr) (n c : Nat) (i t l : Int) (u : Bool) (T : TypeId) (pv : Value) (w : World) (hS : BmAt w s A n c i t l u)
    (hM : Calls Tryd.prog 45 #[.slice A n c, .int .i64 i, .int .i64 t, rul l u] w fun e w' => e = .panicked [{ v := .iface T pv, recovered := false }] ∧ Below w.heap.size w w') :
    Calls Tryd.prog 44 (bmCap s) w fun e w' => e = .panicked [{ v := .iface T pv, recovered := false }] ∧ Below w.heap.size w w' := by
  obtain ⟨c1, c2, c3, c4, c5⟩ := hS
  have HM := Lib.hid hM
  clear hM
  go_enter Tryd.func44, Tryd.ntmps44
  go_wp2_with fail
  refine HM.out.mono ?_; rintro e w1 ⟨rfl, hb1⟩
  go_wp2
  exact ⟨rfl, rfl, hb1⟩

set_option maxRecDepth 100000 in
set_option maxHeartbeats 2000000 in
theorem clo_ok (s : Nat) (A : Option Addr) (n c : Nat) (i t l : Int) (u : Bool) (N : Nat) (R : List Int) (x0 : Value) (w : World) (hS : BmAt w s A n c i t l u) (hc : w.cell? ⟨s + 5, 0, none⟩ = some x0) (hf : w.frozen? ⟨s + 5, 0, none⟩ = false) (hs : s + 5 < w.heap.size)
    (hM : Calls Tryd.prog 45 #[.slice A n c, .int .i64 i, .int .i64 t, rul l u] w fun e w' => ∃ A' c', e = .returned (.slice A' N c') ∧ w'.ownsRow w.heap.size 3 1 (.slice A' N c') N (intCells R) ∧ Below w.heap.size w w') :
    Calls Tryd.prog 44 (bmCap s) w fun e w' => e = .returned (.tuple #[]) ∧ (∃ A' c', w'.cell? ⟨s + 5, 0, none⟩ = some (.slice A' N c') ∧ w'.ownsRow w.heap.size 3 1 (.slice A' N c') N (intCells R) ∧ Below (s + 5) w w') ∧ ∀ k, k < w.heap.size → k ≠ s + 5 → w'.cell? ⟨k, 0, none⟩ = w.cell? ⟨k, 0, none⟩ ∧ w'.frozen? ⟨k, 0, none⟩ = w.frozen? ⟨k, 0, none⟩ := by
  obtain ⟨c1, c2, c3, c4, c5⟩ := hS
  have HM := Lib.hid hM
  clear hM
  go_enter Tryd.func44, Tryd.ntmps44
  go_wp2_with fail
  refine HM.out.mono ?_; rintro e w1 ⟨A', c', rfl, own1, hb1⟩
  have e5 := (hb1.cell (p := ⟨s + 5, 0, none⟩) hs).trans hc
  have f5 := (hb1.frozen (p := ⟨s + 5, 0, none⟩) hs).trans hf
  have HF : Hid ((w1.setCell ⟨s + 5, 0, none⟩ (.slice A' N c')).cell? ⟨s + 5, 0, none⟩ = some (.slice A' N c')) := World.cell?_setCell_same _ _ _ e5
  have HO := Lib.hid (own_setN (o := 0) (u := .slice A' N c') own1 hs)
  have HB := Lib.hid (bset (p := ⟨s + 5, 0, none⟩) (Nat.le_refl _) (.slice A' N c') (hb1.mono (show s + 5 ≤ w.heap.size by omega)))
  have HK : Hid (∀ k, k < w.heap.size → k ≠ s + 5 → (w1.setCell ⟨s + 5, 0, none⟩ (.slice A' N c')).cell? ⟨k, 0, none⟩ = w.cell? ⟨k, 0, none⟩ ∧ (w1.setCell ⟨s + 5, 0, none⟩ (.slice A' N c')).frozen? ⟨k, 0, none⟩ = w.frozen? ⟨k, 0, none⟩) := fun k hk hne => by
    refine ⟨?_, ?_⟩
    · rw [World.cell?_setCell_other _ _ _ _ (by intro e2; injection e2 with e3; exact hne e3.symm)]
      exact hb1.cell (p := ⟨k, 0, none⟩) hk
    · rw [show (w1.setCell ⟨s + 5, 0, none⟩ (.slice A' N c')).frozen? ⟨k, 0, none⟩ = w1.frozen? ⟨k, 0, none⟩ by simp]
      exact hb1.frozen (p := ⟨k, 0, none⟩) hk
  clear own1 hb1
  go_wp2
  exact bodyPost_end (v := .tuple #[]) (by simp [results, Tryd.results44, go_sem]) rfl ⟨rfl, ⟨A', c', HF.out, HO.out, HB.out⟩, HK.out⟩
end Go.Proofs.YthemmckchmpicabDoor
