/-
  Contracts: PlayChomp and ChompAt of the program.
-/
import Derived.Test.YtclkddehaomdjaaMovesS
import Derived.StillTailTactics
namespace Go.Proofs.Ytclkddehaomdjaa
open Go.RowKit
set_option linter.unusedVariables false

/-- the chomp behind the first k bites, if all of them can be made -/
def plK (l : List Int) (R : Nat → List Int) : Nat → Option (List Int)
  | 0 => some l
  | k + 1 => stepM (plK l R k) (R k)
theorem plK_none {l : List Int} {R : Nat → List Int} {k n : Nat} (h : plK l R k = none) (hkn : k ≤ n) : plK l R n = none := by
  induction n with
  | zero => have : k = 0 := by omega
            subst this; exact h
  | succ n ih =>
    by_cases e : k = n + 1
    · subst e; exact h
    · simp only [plK, ih (by omega)]; rfl
theorem plK_ok {l : List Int} (hl : ChOK l) {R : Nat → List Int} : ∀ {k : Nat} {r : List Int}, plK l R k = some r → ChOK r := by
  intro k
  induction k with
  | zero => intro r h; simp only [plK, Option.some.injEq] at h; subst h; exact hl
  | succ k ih =>
    intro r h
    simp only [plK, stepM, Option.bind_eq_some_iff] at h
    obtain ⟨q, hq, h2⟩ := h
    split at h2
    · rename_i hc
      simp only [Option.some.injEq] at h2
      subst h2
      exact biteL_ok (ih hq) hc.2
    · cases h2
def plO (l : List Int) (R : Nat → List Int) (n : Nat) : Option (List Int) := if chB l = true ∧ n ≤ 36 then plK l R n else none
def plB (l : List Int) (R : Nat → List Int) (n : Nat) : Bool := (plO l R n).isSome
def plR (l : List Int) (R : Nat → List Int) (n : Nat) : List Int := (plO l R n).getD []
theorem pl_no {l : List Int} {R : Nat → List Int} {n : Nat} (h : plO l R n = none) : plB l R n = false ∧ plR l R n = [] := by simp [plB, plR, h]
theorem pl_yes {l r : List Int} {R : Nat → List Int} {n : Nat} (h : plO l R n = some r) : plB l R n = true ∧ plR l R n = r := by simp [plB, plR, h]
theorem length_plR (l : List Int) (R : Nat → List Int) (n : Nat) : (plR l R n).length ≤ 6 := by
  unfold plR
  rcases h : plO l R n with _ | r
  · simp
  · unfold plO at h
    split at h
    · rename_i hc
      exact (plK_ok (chB_true.1 hc.1) h).2.1
    · cases h
theorem biteL_fun {l : List Int} (hl : ChOK l) {x y : Int} (h : canC l x y = true) : eatF (fun j => l.getD j 0) x y.toNat = fun j => (biteL l x y).getD j 0 := funext fun j => (biteL_at hl h j).symm

theorem BoxF.store6 {w : World} {g : Nat} {f : Nat → Int} (h : BoxF w g f) (f' : Nat → Int) : BoxF ((((((w.setCell ⟨g, 0, none⟩ (.int .i64 (f' 0))).setCell ⟨g, 1, none⟩ (.int .i64 (f' 1))).setCell ⟨g, 2, none⟩ (.int .i64 (f' 2))).setCell ⟨g, 3, none⟩ (.int .i64 (f' 3))).setCell ⟨g, 4, none⟩ (.int .i64 (f' 4))).setCell ⟨g, 5, none⟩ (.int .i64 (f' 5))) g f' := by
  have h0 := (h.set (k := 0) (by omega) (f' 0)).1
  have h1 := (h0.set (k := 1) (by omega) (f' 1)).1
  have h2 := (h1.set (k := 2) (by omega) (f' 2)).1
  have h3 := (h2.set (k := 3) (by omega) (f' 3)).1
  have h4 := (h3.set (k := 4) (by omega) (f' 4)).1
  have h5 := (h4.set (k := 5) (by omega) (f' 5)).1
  refine h5.congr fun j hj => ?_
  rcases (show j = 0 ∨ j = 1 ∨ j = 2 ∨ j = 3 ∨ j = 4 ∨ j = 5 by omega) with rfl | rfl | rfl | rfl | rfl | rfl <;> simp

set_option maxRecDepth 100000 in
set_option maxHeartbeats 4000000 in
theorem playChomp_any (A : Option Addr) (n c : Nat) (l : List Int) (Ad : Option Addr) (N d : Nat) (R : Nat → List Int) (w : World) (hr : Rd w 1 A n (intCells l)) (hn : n ≤ 1000000000) (hm : RdSS w Ad N R) (hN : N ≤ 1000000000) (hR : ∀ i, i < N → (R i).length ≤ 1000000000) :
    Calls Try.prog 35 #[.slice A n c, .slice Ad N d] w fun e w' => ∃ A' n' c', e = .returned (.tuple #[.slice A' n' c', .bool (plB l R N)]) ∧ w'.ownsRow w.heap.size 3 1 (.slice A' n' c') n' (intCells (plR l R N)) ∧ Below w.heap.size w w' := by
  have HC := Lib.hid (fun wx h => chompOf_any A n c l wx h hn)
  have HRR := Lib.hid hR
  clear hR
  cases hb : chB l
  · have HPO := Lib.hid (pl_no (l := l) (R := R) (n := N) (by simp [plO, hb]))
    rw [HPO.out.1, HPO.out.2]
    have HB := Lib.hid hb
    clear hb
    go_enter Try.func35, Try.ntmps35
    go_wp2_with fail
    refine (HC.out _ hr).mono ?_; rintro e w1 ⟨rfl, hb1⟩
    rw [HB.out]
    have s1 := hb1.size
    go_wp2
    go_ret2
    exact ⟨none, 0, 0, rfl, World.ownsRow_nil _ _ _ _, by (repeat (first | (with_reducible exact Below.refl _ _) | (with_reducible assumption) | (with_reducible refine Below.drew ?_) | ((with_reducible refine balloc ?_ _ ?_); · (first | (simp; done) | (simp; omega) | omega)) | ((with_reducible refine bset ?_ _ ?_); · (first | (simp; done) | (simp; omega) | omega)) | (with_reducible refine bdrewN _ ?_) | ((with_reducible refine bcall ?_ (by assumption) ?_); · (first | (simp; done) | (simp; omega) | omega))))⟩
  by_cases h36 : N ≤ 36
  case neg =>
    have HPO := Lib.hid (pl_no (l := l) (R := R) (n := N) (by simp [plO, h36]))
    rw [HPO.out.1, HPO.out.2]
    have HB := Lib.hid hb
    have hd : decide ((36 : Int) < (N : Int)) = true := decide_eq_true (by omega)
    clear hb
    go_enter Try.func35, Try.ntmps35
    go_wp2_with fail
    refine (HC.out _ hr).mono ?_; rintro e w1 ⟨rfl, hb1⟩
    rw [HB.out]
    have s1 := hb1.size
    go_wp2
    go_ret2
    exact ⟨none, 0, 0, rfl, World.ownsRow_nil _ _ _ _, by (repeat (first | (with_reducible exact Below.refl _ _) | (with_reducible assumption) | (with_reducible refine Below.drew ?_) | ((with_reducible refine balloc ?_ _ ?_); · (first | (simp; done) | (simp; omega) | omega)) | ((with_reducible refine bset ?_ _ ?_); · (first | (simp; done) | (simp; omega) | omega)) | (with_reducible refine bdrewN _ ?_) | ((with_reducible refine bcall ?_ (by assumption) ?_); · (first | (simp; done) | (simp; omega) | omega))))⟩
  have HPO : Hid (plO l R N = plK l R N) := if_pos ⟨hb, h36⟩
  have HPD := Lib.hid (padC_fun hb)
  have HOK := Lib.hid (chB_true.1 hb)
  have HB := Lib.hid hb
  have hd : decide ((36 : Int) < (N : Int)) = false := decide_eq_false (by omega)
  clear hb
  go_enter Try.func35, Try.ntmps35
  go_wp2_with fail
  refine (HC.out _ hr).mono ?_; rintro e w1 ⟨rfl, hb1⟩
  rw [HB.out, HPD.out]
  have s1 := hb1.size
  obtain ⟨f0, hf0⟩ : ∃ f0 : Nat → Int, f0 = fun j => l.getD j 0 := ⟨_, rfl⟩
  rw [← hf0]
  have hbx := BoxF.new w1 f0
  have hbl : Below w.heap.size w (w1.alloc (.cells #[.int .i64 (f0 0), .int .i64 (f0 1), .int .i64 (f0 2), .int .i64 (f0 3), .int .i64 (f0 4), .int .i64 (f0 5)] 47)) := by (repeat (first | (with_reducible exact Below.refl _ _) | (with_reducible assumption) | (with_reducible refine Below.drew ?_) | ((with_reducible refine balloc ?_ _ ?_); · (first | (simp; done) | (simp; omega) | omega)) | ((with_reducible refine bset ?_ _ ?_); · (first | (simp; done) | (simp; omega) | omega)) | (with_reducible refine bdrewN _ ?_) | ((with_reducible refine bcall ?_ (by assumption) ?_); · (first | (simp; done) | (simp; omega) | omega))))
  have HBX := Lib.hid hbx
  have HBL := Lib.hid hbl
  have HF0 := Lib.hid hf0
  have HMM := Lib.hid hm
  clear hbx hbl hf0 hb1 hm
  go_wp2
  generalize w1.alloc (.cells #[.int .i64 (f0 0), .int .i64 (f0 1), .int .i64 (f0 2), .int .i64 (f0 3), .int .i64 (f0 4), .int .i64 (f0 5)] 47) = W1 at *
  go_loopw [25] (fun i wr => ∃ (k : Nat) (now : List Int) (f : Nat → Int), k ≤ N ∧ i = .int .i64 k ∧ Hid (plK l R k = some now) ∧ Hid (f = fun j => now.getD j 0) ∧ BoxF wr w1.heap.size f ∧ Below w.heap.size w wr) (fun i _ => N - (intOf i).toNat)
  case atStart => exact ⟨0, l, f0, Nat.zero_le _, rfl, rfl, HF0.out, HBX.out, HBL.out⟩
  case round =>
    clear HBX HBL
    obtain ⟨k, now, f, hk, rfl, hP, hf, hbx, hB⟩ := hrel
    have sB := hB.size
    by_cases hlt : k < N
    · obtain ⟨b, o, rfl, hbl, a, cc, p0, r0⟩ := (HMM.out.later hB (Nat.le_refl _)).row hlt
      have HRL := Lib.hid (HRR.out k hlt)
      have hrl := HRR.out k hlt
      have HS : Hid (plK l R (k + 1) = stepM (some now) (R k)) := by simp only [Hid, plK]; rw [hP.out]
      generalize hq : R k = m at *
      clear hq
      by_cases h2 : m.length = 2
      case neg =>
        have HPN := Lib.hid (pl_no (l := l) (R := R) (n := N) (by rw [HPO.out]; exact plK_none (k := k + 1) (by rw [HS.out]; simp [stepM, h2]) (by omega)))
        have hne : ((m.length : Int) != 2) = true := by simp; omega
        clear h2
        go_wp2
        go_ret2
        exact ⟨none, 0, 0, by rw [HPN.out.1]; rfl, by rw [HPN.out.2]; exact World.ownsRow_nil _ _ _ _, hB⟩
      have hne : ((m.length : Int) != 2) = false := by simp; omega
      obtain ⟨b2, o2, rfl, l2, hx0, q0⟩ := r0.num (k := 0) (by omega)
      obtain ⟨b3, o3, e3, l3, hx1, q1⟩ := r0.num (k := 1) (by omega)
      simp only [Option.some.injEq, Addr.mk.injEq, and_true] at e3
      obtain ⟨rfl, rfl⟩ := e3
      have HX := Lib.hid (getD_lt hx0)
      have HY := Lib.hid (getD_lt hx1)
      rw [Nat.add_zero] at q0
      have i0 : (0 : Int) < (m.length : Int) := by omega
      have i1 : (1 : Int) < (m.length : Int) := by omega
      have i0n : 0 < m.length := by omega
      have i1n : 1 < m.length := by omega
      generalize m[0] = x at *
      generalize m[1] = y at *
      have HM2 := Lib.hid h2
      clear hx0 hx1 r0 h2
      have HST : Hid (plK l R (k + 1) = if canC now x y = true then some (biteL now x y) else none) := by
        simp only [Hid]
        rw [HS.out]
        simp only [stepM, Option.bind_some, HX.out, HY.out, HM2.out, true_and]
      have HNK : Hid (ChOK now) := plK_ok HOK.out hP.out
      have HBX := Lib.hid hbx
      have hba : BoxF (wr.alloc (.cells #[.int .i64 x, .int .i64 y] 59)).drew w1.heap.size f := hbx.alloc (.cells #[.int .i64 x, .int .i64 y] 59)
      have hbb : BoxB (wr.alloc (.cells #[.int .i64 x, .int .i64 y] 59)).drew wr.heap.size x y := BoxB.new wr x y
      have HBD : Hid (Below w.heap.size w (wr.alloc (.cells #[.int .i64 x, .int .i64 y] 59)).drew) := (hB.alloc sB _).drew
      have HBA := Lib.hid hba
      have HBB := Lib.hid hbb
      have hgt := hbx.lt
      have HIB := Lib.hid (fun wx => isBite_any f x y wx)
      clear hbx hba hbb hB
      go_wp2
      refine wp_region_held_drew (S := (fun w' => w'.cell? ⟨b2, o2, none⟩ = some (.int .i64 x) ∧ w'.cell? ⟨b2, o2 + 1, none⟩ = some (.int .i64 y))) (by kernel_rfl) ?_ (fun hHeld => ?_)
      · ((try dsimp only); (repeat' apply And.intro); all_goals ((repeat (first | (with_reducible refine cell_drew ?_) | (with_reducible refine cell_drewN _ ?_) | ((with_reducible refine cell_alloc ?_ ?_); · first | omega | (simp; done) | (simp; omega) | assumption) | ((with_reducible refine cell_set ?_ ?_); · first | (intro e; injection e; omega) | (intro e; simp at e; done) | (intro e; simp at e; omega)))); first | assumption | (simp; done)))
      refine reg_on (i := 0) (d := 32) (v := ?rv1) rfl rfl (by kernel_rfl) (by kernel_rfl) (by kernel_rfl) (fun _ _ _ h => h) (by rfl) ?ry1 (by assumption) ?rr1
      case ry1 => (intro wz hSw; (try dsimp only at hSw); go_simp; try with_reducible rfl)
      (try simp only [Act.put, List.setIfInBounds_toArray, List.set_cons_zero, List.set_cons_succ])
      refine reg_on (i := 1) (d := 33) (v := ?rv2) rfl rfl (by kernel_rfl) (by kernel_rfl) (by kernel_rfl) (fun _ _ _ h => h) (by rfl) ?ry2 (by assumption) ?rr2
      case ry2 => (intro wz hSw; (try dsimp only at hSw); go_simp; try with_reducible rfl)
      (try simp only [Act.put, List.setIfInBounds_toArray, List.set_cons_zero, List.set_cons_succ])
      refine reg_on (i := 2) (d := 34) (v := ?rv3) rfl rfl (by kernel_rfl) (by kernel_rfl) (by kernel_rfl) (fun _ _ _ h => h) (by rfl) ?ry3 (by assumption) ?rr3
      case ry3 => (intro wz hSw; (try dsimp only at hSw); go_simp; try with_reducible rfl)
      (try simp only [Act.put, List.setIfInBounds_toArray, List.set_cons_zero, List.set_cons_succ])
      refine reg_on (i := 3) (d := 35) (v := ?rv4) rfl rfl (by kernel_rfl) (by kernel_rfl) (by kernel_rfl) (fun _ _ _ h => h) (by rfl) ?ry4 (by assumption) ?rr4
      case ry4 => (intro wz hSw; (try dsimp only at hSw); go_simp; try with_reducible rfl)
      (try simp only [Act.put, List.setIfInBounds_toArray, List.set_cons_zero, List.set_cons_succ])
      refine reg_on (i := 4) (d := 36) (v := ?rv5) rfl rfl (by kernel_rfl) (by kernel_rfl) (by kernel_rfl) (fun _ _ _ h => h) (by rfl) ?ry5 (by assumption) ?rr5
      case ry5 => (intro wz hSw; (try dsimp only at hSw); go_simp; try with_reducible rfl)
      (try simp only [Act.put, List.setIfInBounds_toArray, List.set_cons_zero, List.set_cons_succ])
      refine reg_on (i := 5) (d := 37) (v := ?rv6) rfl rfl (by kernel_rfl) (by kernel_rfl) (by kernel_rfl) (fun _ _ _ h => h) (by rfl) ?ry6 (by assumption) ?rr6
      case ry6 => (intro wz hSw; (try dsimp only at hSw); go_simp; try with_reducible rfl)
      (try simp only [Act.put, List.setIfInBounds_toArray, List.set_cons_zero, List.set_cons_succ])
      refine reg_on (i := 6) (d := 38) (v := ?rv7) rfl rfl (by kernel_rfl) (by kernel_rfl) (by kernel_rfl) (fun _ _ _ h => h) (by rfl) ?ry7 (by assumption) ?rr7
      case ry7 => (intro wz hSw; (try dsimp only at hSw); go_simp; try with_reducible rfl)
      (try simp only [Act.put, List.setIfInBounds_toArray, List.set_cons_zero, List.set_cons_succ])
      refine wpAnyH_ready (rs := [7]) (by kernel_rfl) (by simp) ?_
      refine AllReadyH.cons rfl (fun K hK => ?_) AllReadyH.nil
      go_simp
      refine hK.out _ _ ?_ (fun hHeld => ?_)
      · ((try dsimp only); (repeat' apply And.intro); all_goals ((repeat (first | (with_reducible refine cell_drew ?_) | (with_reducible refine cell_drewN _ ?_) | ((with_reducible refine cell_alloc ?_ ?_); · first | omega | (simp; done) | (simp; omega) | assumption) | ((with_reducible refine cell_set ?_ ?_); · first | (intro e; injection e; omega) | (intro e; simp at e; done) | (intro e; simp at e; omega)))); first | assumption | (simp; done)))
      clear hK K
      (try simp only [Act.put, List.setIfInBounds_toArray, List.set_cons_zero, List.set_cons_succ])
      refine wpAnyH_ready (rs := [8]) (by kernel_rfl) (by simp) ?_
      refine AllReadyH.cons rfl (fun K hK => ?_) AllReadyH.nil
      go_simp
      refine hK.out _ _ ?_ (fun hHeld => ?_)
      · ((try dsimp only); (repeat' apply And.intro); all_goals ((repeat (first | (with_reducible refine cell_drew ?_) | (with_reducible refine cell_drewN _ ?_) | ((with_reducible refine cell_alloc ?_ ?_); · first | omega | (simp; done) | (simp; omega) | assumption) | ((with_reducible refine cell_set ?_ ?_); · first | (intro e; injection e; omega) | (intro e; simp at e; done) | (intro e; simp at e; omega)))); first | assumption | (simp; done)))
      clear hK K
      (try simp only [Act.put, List.setIfInBounds_toArray, List.set_cons_zero, List.set_cons_succ])
      refine wpAnyH_done (by kernel_rfl) ?_ _
      have HSD : Hid ((wr.alloc (.cells #[.int .i64 x, .int .i64 y] 59)).drew.heap.size = wr.heap.size + 1) := by show (wr.alloc _).heap.size = _; simp
      generalize (wr.alloc (.cells #[.int .i64 x, .int .i64 y] 59)).drew = wd at *
      obtain ⟨c0, c1, c2, c3, c4, c5⟩ := BoxF.cells (w := wd) HBA.out
      obtain ⟨e0, e1⟩ := BoxB.cells (w := wd) HBB.out
      clear p0 q0 q1
      by_cases hcan : canC now x y = true
      · have HCAN := Lib.hid hcan
        have HBT : Hid (biteB f x y = true) := by simp only [Hid]; rw [hf.out]; exact hcan
        have h5 := canC_true hcan
        obtain ⟨yn, rfl⟩ : ∃ yn : Nat, y = yn := ⟨y.toNat, by omega⟩
        have yn6 : yn < 6 := by omega
        have HEF : Hid (eatF f x yn = fun j => (biteL now x yn).getD j 0) := by
          have h := biteL_fun HNK.out hcan
          simp only [Int.toNat_natCast] at h
          simp only [Hid]
          rw [hf.out]
          exact h
        have HST2 : Hid (plK l R (k + 1) = some (biteL now x yn)) := by simp only [Hid]; rw [HST.out, if_pos hcan]
        have HEA := Lib.hid (fun wx => eat_any f x yn wx yn6)
        clear hcan h5
        go_wp2_with fail
        refine (HIB.out _).mono ?_; rintro e w3 ⟨rfl, hb3⟩
        rw [HBT.out]
        have hx3 := BoxF.below (w := wd) HBA.out hb3 (Nat.le_refl _)
        have hy3 := BoxB.below (w := wd) HBB.out hb3 (Nat.le_refl _)
        have s3 := hb3.size
        have HB3 := Lib.hid (HBD.out.trans (hb3.mono HBD.out.size))
        clear hb3 c0 c1 c2 c3 c4 c5 e0 e1
        obtain ⟨c0, c1, c2, c3, c4, c5⟩ := hx3.cells
        obtain ⟨e0, e1⟩ := hy3.cells
        have HX3 := Lib.hid hx3
        clear hx3 hy3
        go_wp2_with fail
        refine (HEA.out _).mono ?_; rintro e w4 ⟨rfl, hb4⟩
        have hx4 := HX3.out.below hb4 (Nat.le_refl _)
        have HB4 := Lib.hid (HB3.out.trans (hb4.mono HB3.out.size))
        have hef := HEF.out
        clear HEF
        generalize hff : eatF f x yn = f' at *
        have HFF : Hid (f' = fun j => (biteL now x yn).getD j 0) := hef
        clear hef
        have st := hx4.store6 f'
        have HS6 := Lib.hid st
        have hlt4 := hx4.lt
        clear c0 c1 c2 c3 c4 c5
        obtain ⟨c0, c1, c2, c3, c4, c5⟩ := hx4.cells
        have f0 := hx4.frozen 0
        have f1 := hx4.frozen 1
        have f2 := hx4.frozen 2
        have f3 := hx4.frozen 3
        have f4 := hx4.frozen 4
        have f5 := hx4.frozen 5
        clear hb4 hx4 st hff HIB HEA
        have hB4 := HB4.out
        go_wp2
        go_roundw
        case rel => exact ⟨k + 1, _, f', by omega, by go_num, HST2.out, HFF.out, HS6.out, by (repeat (first | (with_reducible exact Below.refl _ _) | (with_reducible assumption) | (with_reducible refine Below.drew ?_) | ((with_reducible refine balloc ?_ _ ?_); · (first | (simp; done) | (simp; omega) | omega)) | ((with_reducible refine bset ?_ _ ?_); · (first | (simp; done) | (simp; omega) | omega)) | (with_reducible refine bdrewN _ ?_) | ((with_reducible refine bcall ?_ (by assumption) ?_); · (first | (simp; done) | (simp; omega) | omega))))⟩
        case measure => simp [intOf]; omega
      · have hcf : canC now x y = false := by simpa using hcan
        have HBT : Hid (biteB f x y = false) := by simp only [Hid]; rw [hf.out]; exact hcf
        have HPN := Lib.hid (pl_no (l := l) (R := R) (n := N) (by rw [HPO.out]; exact plK_none (k := k + 1) (by rw [HST.out, if_neg hcan]) (by omega)))
        clear hcan hcf
        go_wp2_with fail
        refine (HIB.out _).mono ?_; rintro e w3 ⟨rfl, hb3⟩
        rw [HBT.out]
        have HB3 := Lib.hid (HBD.out.trans (hb3.mono HBD.out.size))
        clear hb3
        go_wp2
        go_ret2
        exact ⟨none, 0, 0, by rw [HPN.out.1]; rfl, by rw [HPN.out.2]; exact World.ownsRow_nil _ _ _ _, HB3.out⟩
    · have hkn : k = N := by omega
      rw [hkn] at hP
      have HPY := Lib.hid (pl_yes (l := l) (R := R) (n := N) (by rw [HPO.out]; exact hP.out))
      have HNK : Hid (ChOK now) := plK_ok HOK.out hP.out
      have HROW : Hid (rowsK f 6 = now) := by simp only [Hid]; rw [hf.out]; exact HNK.out.rows HNK.out.2.1
      obtain ⟨c0, c1, c2, c3, c4, c5⟩ := hbx.cells
      clear hkn hbx
      go_wp2_with fail
      refine (rowsOf_any f _).mono ?_; rintro e w2 ⟨A2, n2, c2', rfl, ho2, hb2⟩
      have HO2 := Lib.hid (own_base ho2 sB)
      have HB2 := Lib.hid (hB.trans (hb2.mono sB))
      clear ho2 hb2
      go_wp2
      go_ret2
      exact ⟨A2, n2, c2', by rw [HPY.out.1]; rfl, by rw [HPY.out.2, ← HROW.out]; exact HO2.out, HB2.out⟩

end Go.Proofs.Ytclkddehaomdjaa
