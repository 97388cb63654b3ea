/-
  Contracts: lengthFinder; QuickestWin of the program.
-/
import Derived.Test.YtclkddehaomdjaaQuickC
namespace Go.Proofs.Ytclkddehaomdjaa
open Go.RowKit Go.Maps
set_option linter.unusedVariables false

theorem len_all (K : Nat → Prop) (km2 p1 p2 p3 N0 km q1 q2 q3 qb : Nat) (hKm : K km) (hne : km ≠ km2 ∧ km ≠ p1 ∧ km ≠ p2 ∧ km ≠ p3) (hN2 : N0 ≤ km2) :
    ∀ s, NumOK K km2 p1 p2 p3 (lenV qb) qI (HI N0 km q1 q2 q3 qb) s
  | 0 => fun l f S w hl _ hs _ _ => by have := (sumI_36 hl).1; omega
  | s + 1 => num_of_len qb K km2 p1 p2 p3 qI (HI N0 km q1 q2 q3 qb) (s + 1) (fun l hl => WalkArith.wf_i64 (by have := qn_36 hl; unfold qI; omega)) N0 (fun w h => h.size) (fun w w' h hs hb => h.keep hN2 hs hb) (find_of_len K km2 p1 p2 p3 N0 km q1 q2 q3 qb s hKm hne hN2 (len_all K km2 p1 p2 p3 N0 km q1 q2 q3 qb hKm hne hN2 s))

set_option maxHeartbeats 1000000 in
theorem lengthFinder_any (km q1 q2 q3 : Nat) (S : List (List Int)) (w : World) (hm : HM (fun i => i = km) w km q1 q2 q3 heapV grI S) :
    Calls Try.prog 73 #[numV q1 q2 q3] w fun e w' => ∃ km2 p1 p2 p3 qb N0, e = .returned (numV p1 p2 p3) ∧ HM (fun i => i = km ∨ i = km2) w' km2 p1 p2 p3 (lenV qb) qI [] ∧ HI N0 km q1 q2 q3 qb w' ∧ (km ≠ km2 ∧ km ≠ p1 ∧ km ≠ p2 ∧ km ≠ p3) ∧ N0 ≤ km2 ∧ w.heap.size ≤ km2 ∧ Below w.heap.size w w' := by
  have hbl : Below w.heap.size w (w.alloc (.cells #[numV q1 q2 q3] 64)) := (Below.refl _ _).alloc (Nat.le_refl _) _
  have hsz : (w.alloc (.cells #[numV q1 q2 q3] 64)).heap.size = w.heap.size + 1 := by simp
  have hcb : (w.alloc (.cells #[numV q1 q2 q3] 64)).cell? ⟨w.heap.size, 0, none⟩ = some (numV q1 q2 q3) := by simp [go_sem]
  have hkm := hm.map.lt
  have hq1 := World.block_lt_of_cell? w _ hm.c1
  have hq2 := World.block_lt_of_cell? w _ hm.c2
  have hq3 := World.block_lt_of_cell? w _ hm.c3
  have hmb := hm.below hbl (Nat.le_refl _)
  have hIb : HI (w.heap.size + 1) km q1 q2 q3 w.heap.size (w.alloc (.cells #[numV q1 q2 q3] 64)) := ⟨by rw [hsz]; exact Nat.le_refl _, ⟨by omega, by have : q1 < w.heap.size := hq1; omega, by have : q2 < w.heap.size := hq2; omega, by have : q3 < w.heap.size := hq3; omega, by omega, by omega⟩, ⟨S, hmb⟩, hcb⟩
  have HR := Lib.hid (remembering_any 82 #[.pointer (some ⟨w.heap.size, 0, none⟩)] qI (w.alloc (.cells #[numV q1 q2 q3] 64)))
  have hmf : ∀ (fn : Fn) (first cap : Array Value) (w : World), (Instr.makeFunc fn first cap).run Try.prog w = .ok (.func fn first cap) w := fun _ _ _ _ => rfl
  have HBL := Lib.hid hbl
  have HIB := Lib.hid hIb
  clear hm hbl hcb hmb hIb
  go_enter Try.func73, Try.ntmps73
  go_wp2_with fail
  refine (HR.out).mono ?_; rintro e w1 ⟨rfl, h1, h2, h3, h4, h5, h6⟩
  have HI1 := Lib.hid (HIB.out.below h5 (Nat.le_refl _))
  have HB1 := Lib.hid (HBL.out.trans (h5.mono HBL.out.size))
  clear h5 HR
  rw [hsz] at h1 h2 h3 h4 h6
  go_wp2
  go_ret
  refine ⟨w.heap.size + 1 + 1, w.heap.size + 1 + 2, w.heap.size + 1, w.heap.size + 1 + 3, w.heap.size, w.heap.size + 1, ?_, ⟨h1, h2, h3, h4, .inr rfl, fun i hi => ?_, ?_, ?_, ?_⟩, HI1.out, by omega, by omega, by omega, HB1.out⟩
  · simp
  · rcases hi with e | e <;> omega
  · rintro (e | e) <;> omega
  · rintro (e | e) <;> omega
  · rintro (e | e) <;> omega

set_option maxRecDepth 100000 in
set_option maxHeartbeats 2000000 in
theorem quickest_any (A : Option Addr) (n c : Nat) (l : List Int) (w : World) (hr : Rd w 1 A n (intCells l)) (hn : n ≤ 1000000000) :
    Calls Try.prog 45 #[.slice A n c] w fun e w' => e = .returned (.tuple #[.int .i64 (qwV l), .bool (winR l)]) ∧ Below w.heap.size w w' := by
  have HC := Lib.hid (fun wx h => chompOf_any A n c l wx h hn)
  cases hb : chB l
  · have hw : winR l = false := by simp [winR, hb]
    rw [show qwV l = 0 by simp [qwV, hw], hw]
    have HB := Lib.hid hb
    have HPN := Lib.hid (padC_no hb)
    clear hb hw
    go_enter Try.func45, Try.ntmps45
    go_wp2_with fail
    refine (HC.out _ hr).mono ?_; rintro e w1 ⟨rfl, hb1⟩
    rw [HB.out, HPN.out]
    have s1 := hb1.size
    go_wp2
    go_ret2
    exact ⟨rfl, by (repeat (first | (with_reducible exact Below.refl _ _) | (with_reducible assumption) | (with_reducible refine Below.drew ?_) | ((with_reducible refine balloc ?_ _ ?_); · (first | (simp; done) | (simp; omega) | omega)) | ((with_reducible refine bset ?_ _ ?_); · (first | (simp; done) | (simp; omega) | omega)) | (with_reducible refine bdrewN _ ?_) | ((with_reducible refine bcall ?_ (by assumption) ?_); · (first | (simp; done) | (simp; omega) | omega))))⟩
  · have HV : Hid (winR l = decide (0 < grI l)) := by simp [Hid, winR, hb]
    have HQV : Hid (qwV l = if winR l = true then qI l else 0) := rfl
    have HB := Lib.hid hb
    have HOK := Lib.hid (chB_true.1 hb)
    have HPD : Hid (padC l = fl l) := funext fun j => padC_at hb j
    clear hb
    go_enter Try.func45, Try.ntmps45
    go_wp2_with fail
    refine (HC.out _ hr).mono ?_; rintro e w1 ⟨rfl, hb1⟩
    rw [HB.out, HPD.out]
    obtain ⟨f, hf⟩ : ∃ f, f = fl l := ⟨_, rfl⟩
    rw [← hf]
    have s1 := hb1.size
    have hbl : Below w.heap.size w (w1.alloc (.cells #[.int .i64 (f 0), .int .i64 (f 1), .int .i64 (f 2), .int .i64 (f 3), .int .i64 (f 4), .int .i64 (f 5)] 47)) := by (repeat (first | (with_reducible exact Below.refl _ _) | (with_reducible assumption) | (with_reducible refine Below.drew ?_) | ((with_reducible refine balloc ?_ _ ?_); · (first | (simp; done) | (simp; omega) | omega)) | ((with_reducible refine bset ?_ _ ?_); · (first | (simp; done) | (simp; omega) | omega)) | (with_reducible refine bdrewN _ ?_) | ((with_reducible refine bcall ?_ (by assumption) ?_); · (first | (simp; done) | (simp; omega) | omega))))
    have hbx := BoxF.new w1 f
    obtain ⟨c0, c1, c2, c3, c4, c5⟩ := hbx.cells
    have HF := Lib.hid hf
    have HBL := Lib.hid hbl
    have HBX := Lib.hid hbx
    have HSZ : Hid ((w1.alloc (.cells #[.int .i64 (f 0), .int .i64 (f 1), .int .i64 (f 2), .int .i64 (f 3), .int .i64 (f 4), .int .i64 (f 5)] 47)).heap.size = w1.heap.size + 1) := by simp [Hid]
    clear hf hbl hbx hb1
    go_wp2_with fail
    refine (heapFinder_any _).mono ?_; rintro e w2 ⟨km, q1, q2, q3, rfl, hm2, hb2, hkm⟩
    have hx2 : BoxF w2 w1.heap.size f := HBX.out.below hb2 (Nat.le_refl _)
    obtain ⟨k0, k1, k2, k3, k4, k5⟩ := hx2.cells
    have HW := Lib.hid (isWon_any (fun i => i = km) km q1 q2 q3 l f [] w2 HOK.out HF.out hm2)
    have HB2 := Lib.hid (HBL.out.trans (hb2.mono HBL.out.size))
    have HX2 := Lib.hid hx2
    have hkw : w1.heap.size < km := by have := HSZ.out; omega
    clear hx2 hb2 c0 c1 c2 c3 c4 c5 hm2
    generalize hwn : decide (0 < grI l) = wn at *
    go_wp2_with fail
    refine (HW.out).mono ?_; rintro e w3 ⟨rfl, ⟨S3, hm3⟩, hch3⟩
    have hx3 : BoxF w3 w1.heap.size f := hch3.own HX2.out (fun q hq e => by cases hq; have e2 : w1.heap.size = km := e; omega)
    have hB3 : Below w.heap.size w w3 := Chg.below hch3 HB2.out (fun i hi => by have e2 : i = km := hi; omega)
    have HX3 := Lib.hid hx3
    have HB3 := Lib.hid hB3
    have HM3 := Lib.hid hm3
    clear k0 k1 k2 k3 k4 k5 hch3 hB3 hm3 HW
    cases wn with
    | false =>
      have HE : Hid (qwV l = 0 ∧ winR l = false) := ⟨by rw [HQV.out, HV.out]; simp, HV.out⟩
      clear hx3 hwn
      go_wp2
      go_ret2
      exact ⟨by rw [HE.out.1, HE.out.2]; rfl, HB3.out⟩
    | true =>
      have HE : Hid (qwV l = qI l ∧ winR l = true) := ⟨by rw [HQV.out, HV.out]; simp, HV.out⟩
      obtain ⟨m0, m1, m2, m3, m4, m5⟩ := hx3.cells
      clear hx3 hwn
      go_wp2
      refine wp_region_held_drew (S := (fun w' => w'.cell? ⟨w1.heap.size, 0, none⟩ = some (.int .i64 (f 0)) ∧ w'.cell? ⟨w1.heap.size, 1, none⟩ = some (.int .i64 (f 1)) ∧ w'.cell? ⟨w1.heap.size, 2, none⟩ = some (.int .i64 (f 2)) ∧ w'.cell? ⟨w1.heap.size, 3, none⟩ = some (.int .i64 (f 3)) ∧ w'.cell? ⟨w1.heap.size, 4, none⟩ = some (.int .i64 (f 4)) ∧ w'.cell? ⟨w1.heap.size, 5, none⟩ = some (.int .i64 (f 5)))) (by kernel_rfl) ?_ (fun hHeld => ?_)
      · ((try dsimp only); (repeat' apply And.intro); all_goals ((repeat (first | (with_reducible refine cell_drew ?_) | (with_reducible refine cell_drewN _ ?_) | ((with_reducible refine cell_alloc ?_ ?_); · first | omega | (simp; done) | (simp; omega) | assumption) | ((with_reducible refine cell_set ?_ ?_); · first | (intro e; injection e; omega) | (intro e; simp at e; done) | (intro e; simp at e; omega)))); first | assumption | (simp; done)))
      refine reg_on (i := 0) (d := 19) (v := ?rv1) rfl rfl (by kernel_rfl) (by kernel_rfl) (by kernel_rfl) (fun _ _ _ h => h) (by rfl) ?ry1 (by assumption) ?rr1
      case ry1 => (intro wz hSw; (try dsimp only at hSw); go_simp; try with_reducible rfl)
      (try simp only [Act.put, List.setIfInBounds_toArray, List.set_cons_zero, List.set_cons_succ])
      refine reg_on (i := 2) (d := 21) (v := ?rv2) rfl rfl (by kernel_rfl) (by kernel_rfl) (by kernel_rfl) (fun _ _ _ h => h) (by rfl) ?ry2 (by assumption) ?rr2
      case ry2 => (intro wz hSw; (try dsimp only at hSw); go_simp; try with_reducible rfl)
      (try simp only [Act.put, List.setIfInBounds_toArray, List.set_cons_zero, List.set_cons_succ])
      refine wpAnyH_ready (rs := [1]) (by kernel_rfl) (by simp) ?_
      refine AllReadyH.cons rfl (fun K hK => ?_) AllReadyH.nil
      go_simp
      go_at_call 73; refine (lengthFinder_any km q1 q2 q3 S3 _ (HM3.out.below (Below.refl w3.heap.size w3).drew (Nat.le_refl _))).mono ?_; rintro e w4 ⟨km2, p1, p2, p3, qb, N0, rfl, hm4, hI4, hne, hN2, hk4, hb4⟩; have hx4 : BoxF w4 w1.heap.size f := BoxF.below (by exact HX3.out) hb4 (Nat.le_refl _); obtain ⟨r0, r1, r2, r3, r4, r5⟩ := hx4.cells
      refine hK.out _ _ ?_ (fun hHeld => ?_)
      · ((try dsimp only); (repeat' apply And.intro); all_goals ((repeat (first | (with_reducible refine cell_drew ?_) | (with_reducible refine cell_drewN _ ?_) | ((with_reducible refine cell_alloc ?_ ?_); · first | omega | (simp; done) | (simp; omega) | assumption) | ((with_reducible refine cell_set ?_ ?_); · first | (intro e; injection e; omega) | (intro e; simp at e; done) | (intro e; simp at e; omega)))); first | assumption | (simp; done)))
      clear hK K
      (try simp only [Act.put, List.setIfInBounds_toArray, List.set_cons_zero, List.set_cons_succ])
      refine wpAnyH_ready (rs := [3]) (by kernel_rfl) (by simp) ?_
      refine AllReadyH.cons rfl (fun K hK => ?_) AllReadyH.nil
      go_simp
      go_at_call 85; refine (len_all (fun i => i = km ∨ i = km2) km2 p1 p2 p3 N0 km q1 q2 q3 qb (Or.inl rfl) hne hN2 36 l f [] _ HOK.out HF.out (by have := (sumI_36 HOK.out).2; omega) (by exact hm4) (by exact hI4)).mono ?_; rintro e w5 ⟨rfl, _, _, hch5⟩; have hx5 : BoxF w5 w1.heap.size f := Chg.own hch5 (by exact hx4) (fun q hq e => by cases hq; rcases e with e2 | e2; (have e3 : w1.heap.size = km := e2; omega); (have e3 : w1.heap.size = km2 := e2; have h1 := HX3.out.lt; have h2 : w3.heap.size ≤ km2 := hk4; omega)); obtain ⟨t0, t1, t2, t3, t4, t5⟩ := hx5.cells
      refine hK.out _ _ ?_ (fun hHeld => ?_)
      · ((try dsimp only); (repeat' apply And.intro); all_goals ((repeat (first | (with_reducible refine cell_drew ?_) | (with_reducible refine cell_drewN _ ?_) | ((with_reducible refine cell_alloc ?_ ?_); · first | omega | (simp; done) | (simp; omega) | assumption) | ((with_reducible refine cell_set ?_ ?_); · first | (intro e; injection e; omega) | (intro e; simp at e; done) | (intro e; simp at e; omega)))); first | assumption | (simp; done)))
      clear hK K
      (try simp only [Act.put, List.setIfInBounds_toArray, List.set_cons_zero, List.set_cons_succ])
      refine reg_on (i := 4) (d := 2) (v := ?rv5) rfl rfl (by kernel_rfl) (by kernel_rfl) (by kernel_rfl) (fun _ _ _ h => h) (by rfl) ?ry5 (by assumption) ?rr5
      case ry5 => (intro wz hSw; (try dsimp only at hSw); go_simp; try with_reducible rfl)
      (try simp only [Act.put, List.setIfInBounds_toArray, List.set_cons_zero, List.set_cons_succ])
      refine reg_on (i := 5) (d := 3) (v := ?rv6) rfl rfl (by kernel_rfl) (by kernel_rfl) (by kernel_rfl) (fun _ _ _ h => h) (by rfl) ?ry6 (by assumption) ?rr6
      case ry6 => (intro wz hSw; (try dsimp only at hSw); go_simp; try with_reducible rfl)
      (try simp only [Act.put, List.setIfInBounds_toArray, List.set_cons_zero, List.set_cons_succ])
      refine wpAnyH_done (by kernel_rfl) ?_ _
      have hB4 : Below w.heap.size w w4 := HB3.out.drew.trans (hb4.mono HB3.out.size)
      have hB5 : Below w.heap.size w w5 := Chg.below hch5 hB4 (fun i hi => by rcases hi with e2 | e2; (have e3 : i = km := e2; omega); (have e3 : i = km2 := e2; have h2 : w3.heap.size ≤ km2 := hk4; have := HB3.out.size; omega))
      clear hx4 hx5 hm4 hI4 hch5 hb4
      go_wp2
      go_ret2
      exact ⟨by rw [HE.out.1, HE.out.2]; rfl, hB5⟩

end Go.Proofs.Ytclkddehaomdjaa
