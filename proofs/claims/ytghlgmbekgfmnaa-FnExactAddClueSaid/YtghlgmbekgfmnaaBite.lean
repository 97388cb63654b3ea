/-
  Contracts: bites, of the program: isBite, eat, rowsOf.
-/
import Derived.Test.YtghlgmbekgfmnaaArr
import Derived.Test.YtghlgmbekgfmnaaBiteW
import Derived.StillTailTactics
namespace Go.Proofs.Ytghlgmbekgfmnaa
open Go.RowKit
set_option linter.unusedVariables false

theorem bite_eql (a b c d : Int) (w : World) : (binOp .eql 116 (bar2 a b) (bar2 c d)).run Try.prog w = .ok (.bool (a == c && b == d)) w := by
  have ht : Try.prog.underlying 116 = some (.struct (Try.prog.fieldsOf 116)) := by kernel_rfl
  have hp : Try.prog.stoodInHeld 116 = false := by kernel_rfl
  rw [run_eql_struct, run_equalIn_agg _ _ _ _ _ ht hp]
  have hi := Try.underlying3
  by_cases h1 : (a == c) = true
  · by_cases h2 : (b == d) = true
    · simp [Program.fieldsOf, Try.underlying116, Op.eqFields, hi, h1, h2, go_sem]
    · have h2' : (b == d) = false := by simpa using h2
      simp [Program.fieldsOf, Try.underlying116, Op.eqFields, hi, h1, h2', go_sem]
  · have h1' : (a == c) = false := by simpa using h1
    simp [Program.fieldsOf, Try.underlying116, Op.eqFields, hi, h1', go_sem]

def eatK (f : Nat → Int) (x : Int) (y k : Nat) : Nat → Int := fun j => if y ≤ j ∧ j < k then (if x < f j then x else f j) else f j

theorem eatK_step {f : Nat → Int} {x : Int} {y k : Nat} (hyk : y ≤ k) (j : Nat) : (if j = k then (if x < f k then x else f k) else eatK f x y k j) = eatK f x y (k + 1) j := by
  simp only [eatK]
  by_cases e : j = k
  · subst e; rw [if_pos rfl, if_pos (show y ≤ j ∧ j < j + 1 from ⟨hyk, by omega⟩)]
  · rw [if_neg e]
    by_cases e2 : y ≤ j ∧ j < k
    · rw [if_pos e2, if_pos (show y ≤ j ∧ j < k + 1 from ⟨e2.1, by omega⟩)]
    · rw [if_neg e2, if_neg (show ¬ (y ≤ j ∧ j < k + 1) from by omega)]
theorem eatK_6 {f : Nat → Int} {x : Int} {y j : Nat} (hj : j < 6) : eatK f x y 6 j = eatF f x y j := by
  simp only [eatK, eatF]
  by_cases e : y ≤ j
  · rw [if_pos e, if_pos (show y ≤ j ∧ j < 6 from ⟨e, hj⟩)]
  · rw [if_neg e, if_neg (show ¬ (y ≤ j ∧ j < 6) from fun h => e h.1)]

set_option maxRecDepth 100000 in
set_option maxHeartbeats 2000000 in
theorem isBite_any (f : Nat → Int) (x y : Int) (w : World) :
    Calls Try.prog 121 #[arrF f, bar2 x y] w fun e w' => e = .returned (.bool (biteB f x y)) ∧ Below w.heap.size w w' := by
  by_cases h1 : 0 ≤ x
  case neg =>
    have hV : biteB f x y = false := by simp [biteB, h1]
    rw [hV]
    go_enter Try.func121, Try.ntmps121
    go_wp2
    go_ret
    exact ⟨rfl, by (repeat (first | (with_reducible exact Below.refl _ _) | (with_reducible assumption) | (with_reducible refine Below.drew ?_) | ((with_reducible refine balloc ?_ _ ?_); · (first | (simp; done) | (simp; omega) | omega)) | ((with_reducible refine bset ?_ _ ?_); · (first | (simp; done) | (simp; omega) | omega)) | (with_reducible refine bdrewN _ ?_) | ((with_reducible refine bcall ?_ (by assumption) ?_); · (first | (simp; done) | (simp; omega) | omega))))⟩
  have d1 : decide (x < 0) = false := decide_eq_false (by omega)
  by_cases h2 : 0 ≤ y
  case neg =>
    have hV : biteB f x y = false := by simp [biteB, h2]
    rw [hV]
    have d2 : decide (y < 0) = true := decide_eq_true (by omega)
    go_enter Try.func121, Try.ntmps121
    go_wp2
    go_ret
    exact ⟨rfl, by (repeat (first | (with_reducible exact Below.refl _ _) | (with_reducible assumption) | (with_reducible refine Below.drew ?_) | ((with_reducible refine balloc ?_ _ ?_); · (first | (simp; done) | (simp; omega) | omega)) | ((with_reducible refine bset ?_ _ ?_); · (first | (simp; done) | (simp; omega) | omega)) | (with_reducible refine bdrewN _ ?_) | ((with_reducible refine bcall ?_ (by assumption) ?_); · (first | (simp; done) | (simp; omega) | omega))))⟩
  have d2 : decide (y < 0) = false := decide_eq_false (by omega)
  by_cases h3 : y < 6
  case neg =>
    have hV : biteB f x y = false := by simp [biteB, h3]
    rw [hV]
    have d3 : decide (6 ≤ y) = true := decide_eq_true (by omega)
    go_enter Try.func121, Try.ntmps121
    go_wp2
    go_ret
    exact ⟨rfl, by (repeat (first | (with_reducible exact Below.refl _ _) | (with_reducible assumption) | (with_reducible refine Below.drew ?_) | ((with_reducible refine balloc ?_ _ ?_); · (first | (simp; done) | (simp; omega) | omega)) | ((with_reducible refine bset ?_ _ ?_); · (first | (simp; done) | (simp; omega) | omega)) | (with_reducible refine bdrewN _ ?_) | ((with_reducible refine bcall ?_ (by assumption) ?_); · (first | (simp; done) | (simp; omega) | omega))))⟩
  have d3 : decide (6 ≤ y) = false := decide_eq_false (by omega)
  have he := fun wx => bite_eql x y 0 0 wx
  by_cases h4 : x = 0 ∧ y = 0
  case pos =>
    have hV : biteB f x y = false := by simp [biteB, h4]
    rw [hV]
    obtain ⟨rfl, rfl⟩ := h4
    have he2 : ∀ wx, (binOp .eql 116 (bar2 0 0) (bar2 0 0)).run Try.prog wx = .ok (.bool true) wx := fun wx => by rw [he]; rfl
    clear he
    go_enter Try.func121, Try.ntmps121
    go_wp2
    go_ret
    exact ⟨rfl, by (repeat (first | (with_reducible exact Below.refl _ _) | (with_reducible assumption) | (with_reducible refine Below.drew ?_) | ((with_reducible refine balloc ?_ _ ?_); · (first | (simp; done) | (simp; omega) | omega)) | ((with_reducible refine bset ?_ _ ?_); · (first | (simp; done) | (simp; omega) | omega)) | (with_reducible refine bdrewN _ ?_) | ((with_reducible refine bcall ?_ (by assumption) ?_); · (first | (simp; done) | (simp; omega) | omega))))⟩
  have he2 : ∀ wx, (binOp .eql 116 (bar2 x y) (bar2 0 0)).run Try.prog wx = .ok (.bool false) wx := fun wx => by
    rw [he]
    have : (x == 0 && y == 0) = false := by
      rw [Bool.and_eq_false_iff]
      simp
      omega
    rw [this]
  obtain ⟨k, rfl⟩ : ∃ k : Nat, y = k := ⟨y.toNat, by omega⟩
  have hV : biteB f x k = decide (x < f k) := by simp only [biteB, Int.toNat_natCast]; exact decide_eq_decide.2 ⟨fun h => h.2.2.2.2, fun h => ⟨h1, h2, h3, h4, h⟩⟩
  rw [hV]
  have HD := Lib.hid d1
  have b0 := (BoxF.new w f).alloc (.cells #[.int .i64 x, .int .i64 (k : Int)] 116)
  have ck := b0.cell (k := k) (by omega)
  generalize hz : f k = z at *
  have hz' := Lib.hid hz
  clear he b0 hz h4 hV
  go_enter Try.func121, Try.ntmps121
  go_wp2
  go_quiet (fail)
  go_wp2
  go_ret
  exact ⟨rfl, by (repeat (first | (with_reducible exact Below.refl _ _) | (with_reducible assumption) | (with_reducible refine Below.drew ?_) | ((with_reducible refine balloc ?_ _ ?_); · (first | (simp; done) | (simp; omega) | omega)) | ((with_reducible refine bset ?_ _ ?_); · (first | (simp; done) | (simp; omega) | omega)) | (with_reducible refine bdrewN _ ?_) | ((with_reducible refine bcall ?_ (by assumption) ?_); · (first | (simp; done) | (simp; omega) | omega))))⟩

set_option maxRecDepth 100000 in
set_option maxHeartbeats 2000000 in
theorem eat_any (f : Nat → Int) (x : Int) (y : Nat) (w : World) (hy : y < 6) :
    Calls Try.prog 115 #[arrF f, bar2 x y] w fun e w' => e = .returned (arrF (eatF f x y)) ∧ Below w.heap.size w w' := by
  obtain ⟨W1, hW1⟩ : ∃ W1, W1 = w.alloc (.cells #[.int .i64 (f 0), .int .i64 (f 1), .int .i64 (f 2), .int .i64 (f 3), .int .i64 (f 4), .int .i64 (f 5)] 73) := ⟨_, rfl⟩
  have e1 : W1.heap.size = w.heap.size + 1 := by rw [hW1]; simp
  have b0 : BoxF W1 w.heap.size f := by rw [hW1]; exact BoxF.new w f
  have b1 := b0.alloc (.cells #[.int .i64 x, .int .i64 (y : Int)] 116)
  have c0 : (W1.alloc (.cells #[.int .i64 x, .int .i64 (y : Int)] 116)).cell? ⟨w.heap.size + 1, 0, none⟩ = some (.int .i64 x) := by rw [← e1]; simp [go_sem]
  obtain ⟨W2, hW2⟩ : ∃ W2, W2 = W1.alloc (.cells #[.int .i64 x, .int .i64 (y : Int)] 116) := ⟨_, rfl⟩
  rw [← hW2] at b1 c0
  have e2 : W2.heap.size = w.heap.size + 2 := by rw [hW2]; simp [e1]
  have b2 := b1.alloc (.cells #[.int .i64 0, .int .i64 0, .int .i64 0, .int .i64 0, .int .i64 0, .int .i64 0] 73)
  have b3 := BoxF.new W2 (fun _ => 0)
  rw [e2] at b3
  have c1 := cell_alloc (o := .cells #[.int .i64 0, .int .i64 0, .int .i64 0, .int .i64 0, .int .i64 0, .int .i64 0] 73) (show (⟨w.heap.size + 1, 0, none⟩ : Addr).block < W2.heap.size by show w.heap.size + 1 < _; omega) c0
  have bl : Below w.heap.size w (W2.alloc (.cells #[.int .i64 0, .int .i64 0, .int .i64 0, .int .i64 0, .int .i64 0, .int .i64 0] 73)) := by
    rw [hW2, hW1]
    (repeat (first | (with_reducible exact Below.refl _ _) | (with_reducible assumption) | (with_reducible refine Below.drew ?_) | ((with_reducible refine balloc ?_ _ ?_); · (first | (simp; done) | (simp; omega) | omega)) | ((with_reducible refine bset ?_ _ ?_); · (first | (simp; done) | (simp; omega) | omega)) | (with_reducible refine bdrewN _ ?_) | ((with_reducible refine bcall ?_ (by assumption) ?_); · (first | (simp; done) | (simp; omega) | omega))))
  rw [hW2, hW1] at b2 b3 c1 bl
  have B2 := Lib.hid b2
  have B3 := Lib.hid b3
  have C1 := Lib.hid c1
  have BL := Lib.hid bl
  clear b0 b1 b2 b3 c0 c1 bl e2 hW2 W2 e1 hW1 W1
  go_enter Try.func115, Try.ntmps115
  go_wp2
  go_loopw [5] (fun i wr => ∃ k : Nat, y ≤ k ∧ k ≤ 6 ∧ i = .int .i64 k ∧ BoxF wr w.heap.size (eatK f x y k) ∧ BoxF wr (w.heap.size + 2) (fun _ => 0) ∧ wr.cell? ⟨w.heap.size + 1, 0, none⟩ = some (.int .i64 x) ∧ Below w.heap.size w wr) (fun i _ => 6 - (intOf i).toNat)
  case atStart => exact ⟨y, Nat.le_refl _, by omega, rfl, B2.out.congr (fun j _ => by simp only [eatK]; rw [if_neg (by omega)]), B3.out, C1.out, BL.out⟩
  case round =>
    clear B2 B3 C1 BL
    obtain ⟨k, hyk, hk6, rfl, hb0, hb2, hc, hB⟩ := hrel
    have HB0 := Lib.hid hb0
    have HB2 := Lib.hid hb2
    by_cases hlt : k < 6
    · have ck := hb0.cell (k := k) hlt
      have fk := hb0.frozen k
      have hz : eatK f x y k k = f k := by simp only [eatK]; rw [if_neg (by omega)]
      rw [hz] at ck
      have HS := Lib.hid ((BoxF.set (w := wr.drew) HB0.out hlt (if x < f k then x else f k)).1)
      have HG := Lib.hid (BoxF.grown (w := wr.drew) HB2.out (BoxF.set (w := wr.drew) HB0.out hlt (if x < f k then x else f k)).2 (by omega))
      have HBD := Lib.hid hB.drew
      have hcd : wr.drew.cell? ⟨w.heap.size, k, none⟩ = some (.int .i64 (f k)) := ck
      have hfd : wr.drew.frozen? ⟨w.heap.size, k, none⟩ = false := fk
      have hxd : wr.drew.cell? ⟨w.heap.size + 1, 0, none⟩ = some (.int .i64 x) := hc
      have HM : Hid (∀ j, j < 6 → (if j = k then (if x < f k then x else f k) else eatK f x y k j) = eatK f x y (k + 1) j) := fun j _ => eatK_step hyk j
      have hne : w.heap.size + 1 ≠ w.heap.size := by omega
      clear hb0 hb2 hB hz
      generalize hfk : f k = z at *
      clear hfk
      go_wp2
      go_still_tail 8, (by kernel_rfl)
      change wpList _ _ _ _ _ wr.drew
      generalize hm : (if x < z then x else z) = m at *
      clear hm ck fk hc
      have hxs : (wr.drew.setCell ⟨w.heap.size, k, none⟩ (.int .i64 m)).cell? ⟨w.heap.size + 1, 0, none⟩ = some (.int .i64 x) := cell_set (by intro e; injection e; omega) hxd
      go_wp2
      go_roundw
      case rel => exact ⟨k + 1, by omega, by omega, by go_num, HS.out.congr HM.out, HG.out, hxs, bset (by simp) _ HBD.out⟩
      case measure => simp [intOf]; omega
    · have hk : k = 6 := by omega
      subst hk
      have hb6 : BoxF wr w.heap.size (eatF f x y) := hb0.congr fun j hj => eatK_6 hj
      obtain ⟨k0, k1, k2, k3, k4, k5⟩ := hb6.cells
      obtain ⟨c0, c1, c2, c3, c4, c5⟩ := hb2.cells
      have f0 := hb2.frozen 0
      have f1 := hb2.frozen 1
      have f2 := hb2.frozen 2
      have f3 := hb2.frozen 3
      have f4 := hb2.frozen 4
      have f5 := hb2.frozen 5
      have sB := hB.size
      have hl := hb2.lt
      clear hb0 hb2 hb6
      go_wp2
      refine bodyPost_ret (v := arrF (eatF f x y)) (by simp [results, Try.results115, go_sem, *]) rfl ⟨rfl, ?_⟩
      (repeat (first | (with_reducible exact Below.refl _ _) | (with_reducible assumption) | (with_reducible refine Below.drew ?_) | ((with_reducible refine balloc ?_ _ ?_); · (first | (simp; done) | (simp; omega) | omega)) | ((with_reducible refine bset ?_ _ ?_); · (first | (simp; done) | (simp; omega) | omega)) | (with_reducible refine bdrewN _ ?_) | ((with_reducible refine bcall ?_ (by assumption) ?_); · (first | (simp; done) | (simp; omega) | omega))))

theorem idx_arr (f : Nat → Int) {k : Nat} (hk : k < 6) (w : World) : (Instr.index 73 (arrF f) (.int .i64 (k : Int))).run Try.prog w = .ok (.int .i64 (f k)) w := by
  rcases (show k = 0 ∨ k = 1 ∨ k = 2 ∨ k = 3 ∨ k = 4 ∨ k = 5 by omega) with rfl | rfl | rfl | rfl | rfl | rfl <;> kernel_rfl

set_option maxRecDepth 100000 in
set_option maxHeartbeats 2000000 in
theorem rowsOf_any (f : Nat → Int) (w : World) :
    Calls Try.prog 75 #[arrF f] w fun e w' => ∃ A' n' c', e = .returned (.slice A' n' c') ∧ w'.ownsRow w.heap.size 3 1 (.slice A' n' c') n' (intCells (rowsK f 6)) ∧ Below w.heap.size w w' := by
  obtain ⟨i0, hi, hz0, hz1, hz2⟩ := info_parts int_info
  have hidx := fun (k : Nat) (hk : k < 6) (wx : World) => idx_arr f hk wx
  have HI := Lib.hid hidx
  clear hidx
  go_enter Try.func75, Try.ntmps75
  go_wp2
  go_loopw [3, 7] (fun v i wr => ∃ (k m : Nat) (A' : Option Addr) (c' : Nat), k ≤ 6 ∧ m ≤ k ∧ i = .int .i64 k ∧ v = .slice A' m c' ∧ wr.ownsRow w.heap.size 3 1 (.slice A' m c') m (intCells (rowsK f k)) ∧ Below w.heap.size w wr) (fun _ i _ => 6 - (intOf i).toNat)
  case atStart => exact ⟨0, 0, none, 0, by omega, by omega, rfl, rfl, World.ownsRow_nil _ _ _ _, by (repeat (first | (with_reducible exact Below.refl _ _) | (with_reducible assumption) | (with_reducible refine Below.drew ?_) | ((with_reducible refine balloc ?_ _ ?_); · (first | (simp; done) | (simp; omega) | omega)) | ((with_reducible refine bset ?_ _ ?_); · (first | (simp; done) | (simp; omega) | omega)) | (with_reducible refine bdrewN _ ?_) | ((with_reducible refine bcall ?_ (by assumption) ?_); · (first | (simp; done) | (simp; omega) | omega))))⟩
  case round =>
    obtain ⟨k, m, A', c', hk, hm, rfl, rfl, hown, hB⟩ := hrel
    have sB := hB.size
    by_cases hlt : k < 6
    · have hix := HI.out k hlt wr
      have HR := Lib.hid (rowsK_succ f k)
      generalize hfk : f k = z at *
      clear hfk
      by_cases hp : 0 < z
      · have HP := Lib.hid hp
        have hd : decide (0 < z) = true := decide_eq_true hp
        have hc3 : m + 1 ≤ maxLen := by simp only [maxLen]; omega
        go_wp2_with (at_builtin; refine wpList_append_own _ rfl (.tmp 12) (.tmp 14) 39 rfl w.heap.size 3 i0 (.int .i64 0) 1 8 Try.underlying39 hi hz0 hz1 hz2 rfl (by decide) _ _ _ rfl (hown.alloc _) ⟨wr.heap.size, 0, none⟩ 1 1 [.int .i64 z] rfl rfl (new1 _ _ _) (int_oneCell [z]) hc3 (by omega) (Nat.le_trans sB (show wr.heap.size ≤ _ by simp)) ?_)
        intro v' w2 hown' hgrow _
        have hb2 := gb_new (Nat.le_refl _) (hB.alloc (by omega) (.cells #[.int .i64 z] 3)) hgrow (fun g hg => (hown.lt g hg).1)
        obtain ⟨A2, c2', rfl⟩ := own_slice hown'
        clear hgrow hown hB hc3
        go_wp2
        go_roundw
        case rel => exact ⟨k + 1, m + 1, A2, c2', by omega, by omega, by go_num, rfl, by rw [HR.out, if_pos HP.out, intCells_append]; exact hown', hb2⟩
        case measure => simp [intOf]; omega
      · have HP := Lib.hid hp
        have hd : decide (0 < z) = false := decide_eq_false hp
        go_wp2
        go_roundw
        case rel => exact ⟨k + 1, m, A', c', by omega, by omega, by go_num, rfl, by rw [HR.out, if_neg HP.out, List.append_nil]; exact hown, hB⟩
        case measure => simp [intOf]; omega
    · have hk6 : k = 6 := by omega
      rw [hk6] at hown
      go_wp2
      go_ret
      exact ⟨A', m, c', rfl, hown, hB⟩

end Go.Proofs.Ytghlgmbekgfmnaa
