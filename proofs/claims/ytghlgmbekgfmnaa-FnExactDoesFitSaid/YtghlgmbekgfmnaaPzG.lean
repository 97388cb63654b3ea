/-
  Contracts: DoesFit of the program and of the model. Conditions: none.
-/
import Derived.Test.YtghlgmbekgfmnaaPzD
namespace Go.Proofs.Ytghlgmbekgfmnaa
open Go.RowKit Go.Maps
set_option linter.unusedVariables false
set_option linter.unusedSimpArgs false

/-- what DoesFit returns -/
def dfB (q : Clu) (l : List Int) : Bool := hidB l && cluB q
def dfR (q : Clu) (l : List Int) : Bool := dfB q l && fitB q l
theorem fits_one (q : Clu) (l : List Int) : fits [q] l = fitB q l := by simp [fits]

set_option maxRecDepth 100000 in
set_option maxHeartbeats 8000000 in
theorem doesFit_any (k a b : Int) (A : Option Addr) (n c : Nat) (l : List Int) (w : World) (hr : Rd w 1 A n (intCells l)) (hn : n ≤ 1000000000) :
    Calls Try.prog 28 #[bx3 k a b, .slice A n c] w fun e w' => e = .returned (.tuple #[.bool (dfR (k, a, b) l), .bool (dfB (k, a, b) l)]) ∧ Below w.heap.size w w' := by
  have HG := Lib.hid (fun wx h => hiddenOf_any A n c l wx h hn)
  cases hh : hidB l
  · have e1 : dfB (k, a, b) l = false := by simp [dfB, hh]
    rw [show dfR (k, a, b) l = false by simp [dfR, e1], e1]
    have HF0 := Lib.hid (hidF_no hh)
    rw [hh] at HG
    clear hh e1
    go_enter Try.func28, Try.ntmps28
    go_wp2_with fail
    refine (HG.out _ (hr.later (B := w.heap.size) (by (repeat (first | (with_reducible exact Below.refl _ _) | (with_reducible assumption) | (with_reducible refine Below.drew ?_) | ((with_reducible refine balloc ?_ _ ?_); · (first | (simp; done) | (simp; omega) | omega)) | ((with_reducible refine bset ?_ _ ?_); · (first | (simp; done) | (simp; omega) | omega)) | (with_reducible refine bdrewN _ ?_) | ((with_reducible refine bcall ?_ (by assumption) ?_); · (first | (simp; done) | (simp; omega) | omega))))) (Nat.le_refl _))).mono ?_; rintro e w1 ⟨rfl, hb1⟩
    rw [HF0.out]
    have s1 := hb1.size
    simp at s1
    go_wp2
    go_ret2
    exact ⟨rfl, by (repeat (first | (with_reducible exact Below.refl _ _) | (with_reducible assumption) | (with_reducible refine Below.drew ?_) | ((with_reducible refine balloc ?_ _ ?_); · (first | (simp; done) | (simp; omega) | omega)) | ((with_reducible refine bset ?_ _ ?_); · (first | (simp; done) | (simp; omega) | omega)) | (with_reducible refine bdrewN _ ?_) | ((with_reducible refine bcall ?_ (by assumption) ?_); · (first | (simp; done) | (simp; omega) | omega))))⟩
  · have HH := Lib.hid (hidB_true hh)
    have hhf := hidF_yes hh
    rw [hh] at HG
    obtain ⟨f, hf⟩ : ∃ f, f = fl l := ⟨_, rfl⟩
    have HF := Lib.hid hf
    rw [hhf, ← hf] at HG
    have HQB : Hid (dfB (k, a, b) l = cluB (k, a, b)) := by simp [Hid, dfB, hh]
    clear hhf hh hf
    have hbc : Below w.heap.size w (w.alloc (.cells #[.int .i64 k, .int .i64 a, .int .i64 b] 25)) := by (repeat (first | (with_reducible exact Below.refl _ _) | (with_reducible assumption) | (with_reducible refine Below.drew ?_) | ((with_reducible refine balloc ?_ _ ?_); · (first | (simp; done) | (simp; omega) | omega)) | ((with_reducible refine bset ?_ _ ?_); · (first | (simp; done) | (simp; omega) | omega)) | (with_reducible refine bdrewN _ ?_) | ((with_reducible refine bcall ?_ (by assumption) ?_); · (first | (simp; done) | (simp; omega) | omega))))
    cases hq : cluB (k, a, b)
    · have e1 : dfB (k, a, b) l = false := by rw [HQB.out, hq]
      rw [show dfR (k, a, b) l = false by simp [dfR, e1], e1]
      have HC := Lib.hid (isClue_any k a b)
      rw [hq] at HC
      clear hq e1
      go_enter Try.func28, Try.ntmps28
      go_wp2_with fail
      refine (HG.out _ (hr.later (B := w.heap.size) hbc (Nat.le_refl _))).mono ?_; rintro e w1 ⟨rfl, hb1⟩
      have s1 := hb1.size
      simp at s1
      obtain ⟨hc1, hf1⟩ := bcell hb1
      have z0 : w.heap.size < w1.heap.size := by omega
      go_wp2_with fail
      refine (HC.out _).mono ?_; rintro e w2 ⟨rfl, hb2⟩
      go_wp2
      go_ret2
      exact ⟨rfl, by (repeat (first | (with_reducible exact Below.refl _ _) | (with_reducible assumption) | (with_reducible refine Below.drew ?_) | ((with_reducible refine balloc ?_ _ ?_); · (first | (simp; done) | (simp; omega) | omega)) | ((with_reducible refine bset ?_ _ ?_); · (first | (simp; done) | (simp; omega) | omega)) | (with_reducible refine bdrewN _ ?_) | ((with_reducible refine bcall ?_ (by assumption) ?_); · (first | (simp; done) | (simp; omega) | omega))))⟩
    · have e1 : dfB (k, a, b) l = true := by rw [HQB.out, hq]
      rw [show dfR (k, a, b) l = fitB (k, a, b) l by simp [dfR, e1], e1]
      have HC := Lib.hid (isClue_any k a b)
      rw [hq] at HC
      have HSQ : Hid (∀ q ∈ [((k, a, b) : Clu)], cluB q = true) := fun q h => by rw [List.mem_singleton] at h; rw [h]; exact hq
      clear hq e1 HQB
      go_enter Try.func28, Try.ntmps28
      go_wp2_with fail
      refine (HG.out _ (hr.later (B := w.heap.size) hbc (Nat.le_refl _))).mono ?_; rintro e w1 ⟨rfl, hb1⟩
      have s1 := hb1.size
      simp at s1
      have z0 : w.heap.size < w1.heap.size := by omega
      have d0 : w1.cell? ⟨w.heap.size, 0, none⟩ = some (.int .i64 k) := (hb1.cell (p := ⟨w.heap.size, 0, none⟩) (by simp)).trans (by simp [go_sem])
      have d1 : w1.cell? ⟨w.heap.size, 1, none⟩ = some (.int .i64 a) := (hb1.cell (p := ⟨w.heap.size, 1, none⟩) (by simp)).trans (by simp [go_sem])
      have d2 : w1.cell? ⟨w.heap.size, 2, none⟩ = some (.int .i64 b) := (hb1.cell (p := ⟨w.heap.size, 2, none⟩) (by simp)).trans (by simp [go_sem])
      have hbh : Below w1.heap.size w1 (w1.alloc (.cells #[.int .i64 (f 0), .int .i64 (f 1), .int .i64 (f 2), .int .i64 (f 3), .int .i64 (f 4), .int .i64 (f 5)] 73)) := (Below.refl _ _).alloc (Nat.le_refl _) _
      have HBX := Lib.hid (BoxF.new w1 f)
      have HB1 := Lib.hid (hbc.trans (hb1.mono hbc.size))
      have g0 := (hbh.cell (p := ⟨w.heap.size, 0, none⟩) z0).trans d0
      have g1 := (hbh.cell (p := ⟨w.heap.size, 1, none⟩) z0).trans d1
      have g2 := (hbh.cell (p := ⟨w.heap.size, 2, none⟩) z0).trans d2
      have HBH := Lib.hid (HB1.out.trans (hbh.mono HB1.out.size))
      have hsh : (w1.alloc (.cells #[.int .i64 (f 0), .int .i64 (f 1), .int .i64 (f 2), .int .i64 (f 3), .int .i64 (f 4), .int .i64 (f 5)] 73)).heap.size = w1.heap.size + 1 := by simp
      clear hb1 hbh d0 d1 d2
      go_wp2_with fail
      refine (HC.out _).mono ?_; rintro e w2 ⟨rfl, hb2⟩
      have s2 := hb2.size
      have k0 := (hb2.cell (p := ⟨w.heap.size, 0, none⟩) (by rw [hsh]; show w.heap.size < _; omega)).trans g0
      have k1 := (hb2.cell (p := ⟨w.heap.size, 1, none⟩) (by rw [hsh]; show w.heap.size < _; omega)).trans g1
      have k2 := (hb2.cell (p := ⟨w.heap.size, 2, none⟩) (by rw [hsh]; show w.heap.size < _; omega)).trans g2
      have hx2 := HBX.out.below hb2 (Nat.le_refl _)
      obtain ⟨y0, y1, y2, y3, y4, y5⟩ := hx2.cells
      have HB2 := Lib.hid (HBH.out.trans (hb2.mono HBH.out.size))
      have hx2l := hx2.lt
      have hz2 : w.heap.size < w2.heap.size := by omega
      have HX2 := Lib.hid hx2
      have HO1 : Hid (∀ (KK : Nat → Prop) (h0 : Nat) (w3 : World), TM KK w3.heap.size w3 h0 → Below (w2.alloc (.cells #[.int .i64 k, .int .i64 a, .int .i64 b] 25)).drew.heap.size (w2.alloc (.cells #[.int .i64 k, .int .i64 a, .int .i64 b] 25)).drew w3 → (∀ i, KK i → (w2.alloc (.cells #[.int .i64 k, .int .i64 a, .int .i64 b] 25)).drew.heap.size ≤ i) →
          Calls Try.prog 71 #[.slice (some ⟨w2.heap.size, 0, none⟩) 1 1, arrF f, tellF h0] w3 fun e w' => e = .returned (.bool (fitB (k, a, b) l)) ∧ Below w2.heap.size w2 w') := fun KK h0 w3 ht hb hK => by
        have hrd := Rd.of_own (own_new w2 25 3 1 #[.int .i64 k, .int .i64 a, .int .i64 b] rfl (by omega) (Nat.zero_le _) (B := 0)).drew
        refine (fitsAll_any KK w3.heap.size h0 _ 1 1 [(k, a, b)] l f w3 HSQ.out (by omega) (fun w' h => rd_chg hrd hb hK h) HH.out.1 HF.out ht).mono fun e w' ⟨he, _, hch⟩ => ⟨by rw [he, fits_one], ?_⟩
        have h1 := Chg.below hch hb hK
        exact ((Below.refl w2.heap.size w2).alloc (Nat.le_refl _) (.cells #[.int .i64 k, .int .i64 a, .int .i64 b] 25)).drew.trans (h1.mono (by show w2.heap.size ≤ (w2.alloc _).heap.size; simp))
      have HO2 : Hid (∀ (KK : Nat → Prop) (h0 : Nat) (w3 : World), TM KK w3.heap.size w3 h0 → Below w2.drew.heap.size w2.drew w3 → (∀ i, KK i → w2.drew.heap.size ≤ i) →
          Calls Try.prog 71 #[.slice (some ⟨w3.heap.size, 0, none⟩) 1 1, arrF f, tellF h0] (w3.alloc (.cells #[.int .i64 k, .int .i64 a, .int .i64 b] 25)) fun e w' => e = .returned (.bool (fitB (k, a, b) l)) ∧ Below w2.heap.size w2 w') := fun KK h0 w3 ht hb hK => by
        have hrd := Rd.of_own (own_new w3 25 3 1 #[.int .i64 k, .int .i64 a, .int .i64 b] rfl (by omega) (Nat.zero_le _) (B := 0))
        have hba : Below w3.heap.size w3 (w3.alloc (.cells #[.int .i64 k, .int .i64 a, .int .i64 b] 25)) := (Below.refl _ _).alloc (Nat.le_refl _) _
        refine (fitsAll_any KK w3.heap.size h0 _ 1 1 [(k, a, b)] l f _ HSQ.out (by omega) (fun w' h => h.rd hrd (fun b o e hk => by cases e; have := ht.kn _ hk; omega)) HH.out.1 HF.out (ht.below hba (Nat.le_refl _))).mono fun e w' ⟨he, _, hch⟩ => ⟨by rw [he, fits_one], ?_⟩
        have h1 := Chg.below hch (hb.trans (hba.mono hb.size)) hK
        exact (Below.refl w2.heap.size w2).drew.trans h1
      clear g0 g1 g2 hb2 hx2 HBX hbc
      go_wp2
      refine wp_region_held_drew (S := (fun w' => w'.cell? ⟨w.heap.size, 0, none⟩ = some (.int .i64 k) ∧ w'.cell? ⟨w.heap.size, 1, none⟩ = some (.int .i64 a) ∧ w'.cell? ⟨w.heap.size, 2, none⟩ = some (.int .i64 b) ∧ w'.cell? ⟨w1.heap.size, 0, none⟩ = some (.int .i64 (f 0)) ∧ w'.cell? ⟨w1.heap.size, 1, none⟩ = some (.int .i64 (f 1)) ∧ w'.cell? ⟨w1.heap.size, 2, none⟩ = some (.int .i64 (f 2)) ∧ w'.cell? ⟨w1.heap.size, 3, none⟩ = some (.int .i64 (f 3)) ∧ w'.cell? ⟨w1.heap.size, 4, none⟩ = some (.int .i64 (f 4)) ∧ w'.cell? ⟨w1.heap.size, 5, none⟩ = some (.int .i64 (f 5)))) (by kernel_rfl) ?_ (fun hHeld => ?_)
      · ((try dsimp only); (repeat' apply And.intro); all_goals ((repeat (first | (with_reducible refine cell_drew ?_) | (with_reducible refine cell_drewN _ ?_) | ((with_reducible refine cell_alloc ?_ ?_); · first | omega | (simp; done) | (simp; omega) | assumption) | ((with_reducible refine cell_set ?_ ?_); · first | (intro e; injection e; omega) | (intro e; simp at e; done) | (intro e; simp at e; omega)))); first | assumption | (simp; done)))
      refine reg_on (i := 0) (d := 20) (v := ?rv1) rfl rfl (by kernel_rfl) (by kernel_rfl) (by kernel_rfl) (fun _ _ _ h => h) (by rfl) ?ry1 (by assumption) ?rr1
      case ry1 => (intro wz hSw; (try dsimp only at hSw); go_simp; try with_reducible rfl)
      (try simp only [Act.put, List.setIfInBounds_toArray, List.set_cons_zero, List.set_cons_succ])
      refine reg_on (i := 2) (d := 22) (v := ?rv2) rfl rfl (by kernel_rfl) (by kernel_rfl) (by kernel_rfl) (fun _ _ _ h => h) (by rfl) ?ry2 (by assumption) ?rr2
      case ry2 => (intro wz hSw; (try dsimp only at hSw); go_simp; try with_reducible rfl)
      (try simp only [Act.put, List.setIfInBounds_toArray, List.set_cons_zero, List.set_cons_succ])
      refine wpAnyH_ready (rs := [1, 3]) (by kernel_rfl) (by simp) ?_
      refine AllReadyH.cons rfl (fun K hK => ?_) (AllReadyH.cons rfl (fun K hK => ?_) (AllReadyH.nil))
      ·
        go_simp
        refine hK.out _ _ ?_ (fun hHeld => ?_)
        · ((try dsimp only); (repeat' apply And.intro); all_goals ((repeat (first | (with_reducible refine cell_drew ?_) | (with_reducible refine cell_drewN _ ?_) | ((with_reducible refine cell_alloc ?_ ?_); · first | omega | (simp; done) | (simp; omega) | assumption) | ((with_reducible refine cell_set ?_ ?_); · first | (intro e; injection e; omega) | (intro e; simp at e; done) | (intro e; simp at e; omega)))); first | assumption | (simp; done)))
        clear hK K
        (try simp only [Act.put, List.setIfInBounds_toArray, List.set_cons_zero, List.set_cons_succ])
        refine wpAnyH_ready (rs := [3]) (by kernel_rfl) (by simp) ?_
        refine AllReadyH.cons rfl (fun K hK => ?_) (AllReadyH.nil)
        go_simp
        go_at_call 72; refine (clueTeller_any _).mono ?_; rintro e w3 ⟨KK, h0, rfl, ht3, hb3, hK3⟩; have t3 : w2.heap.size ≤ w3.heap.size := (by first | exact hb3.size | (have q := hb3.size; simp at q; omega)); have a0 := (hb3.cell (p := ⟨w.heap.size, 0, none⟩) (by first | exact hz2 | (show w.heap.size < (w2.alloc _).heap.size; simp; omega) | (simp; omega) | omega)).trans (show _ = some (Value.int .i64 k) by first | assumption | (go_split_ands; assumption)); have a1 := (hb3.cell (p := ⟨w.heap.size, 1, none⟩) (by first | exact hz2 | (show w.heap.size < (w2.alloc _).heap.size; simp; omega) | (simp; omega) | omega)).trans (show _ = some (Value.int .i64 a) by first | assumption | (go_split_ands; assumption)); have a2 := (hb3.cell (p := ⟨w.heap.size, 2, none⟩) (by first | exact hz2 | (show w.heap.size < (w2.alloc _).heap.size; simp; omega) | (simp; omega) | omega)).trans (show _ = some (Value.int .i64 b) by first | assumption | (go_split_ands; assumption)); have hx3 : BoxF w3 w1.heap.size f := (by first | exact HX2.out.below ((Below.refl _ _).drew.trans hb3) (Nat.le_refl _) | exact (HX2.out.below (((Below.refl w2.heap.size w2).alloc (Nat.le_refl _) (.cells #[.int .i64 k, .int .i64 a, .int .i64 b] 25)).drew) (Nat.le_refl _)).below hb3 (Nat.le_refl _)); obtain ⟨x0, x1, x2, x3, x4, x5⟩ := hx3.cells
        refine hK.out _ _ ?_ (fun hHeld => ?_)
        · ((try dsimp only); (repeat' apply And.intro); all_goals ((repeat (first | (with_reducible refine cell_drew ?_) | (with_reducible refine cell_drewN _ ?_) | ((with_reducible refine cell_alloc ?_ ?_); · first | omega | (simp; done) | (simp; omega) | assumption) | ((with_reducible refine cell_set ?_ ?_); · first | (intro e; injection e; omega) | (intro e; simp at e; done) | (intro e; simp at e; omega)))); first | assumption | (simp; done)))
        clear hK K
        (try simp only [Act.put, List.setIfInBounds_toArray, List.set_cons_zero, List.set_cons_succ])
        refine wpAnyH_ready (rs := [4]) (by kernel_rfl) (by simp) ?_
        refine AllReadyH.cons rfl (fun K hK => ?_) AllReadyH.nil
        go_simp
        go_at_call 71; (first | refine (HO1.out KK h0 w3 ht3 hb3 hK3).mono ?_ | refine (HO2.out KK h0 w3 ht3 hb3 hK3).mono ?_); rintro e w5 ⟨rfl, hb5⟩; have v0 := (hb5.cell (p := ⟨w.heap.size, 0, none⟩) hz2).trans k0; have v1 := (hb5.cell (p := ⟨w.heap.size, 1, none⟩) hz2).trans k1; have v2 := (hb5.cell (p := ⟨w.heap.size, 2, none⟩) hz2).trans k2; have hx5 : BoxF w5 w1.heap.size f := HX2.out.below hb5 (Nat.le_refl _); obtain ⟨x0, x1, x2, x3, x4, x5⟩ := hx5.cells
        refine hK.out _ _ ?_ (fun hHeld => ?_)
        · ((try dsimp only); (repeat' apply And.intro); all_goals ((repeat (first | (with_reducible refine cell_drew ?_) | (with_reducible refine cell_drewN _ ?_) | ((with_reducible refine cell_alloc ?_ ?_); · first | omega | (simp; done) | (simp; omega) | assumption) | ((with_reducible refine cell_set ?_ ?_); · first | (intro e; injection e; omega) | (intro e; simp at e; done) | (intro e; simp at e; omega)))); first | assumption | (simp; done)))
        clear hK K
        (try simp only [Act.put, List.setIfInBounds_toArray, List.set_cons_zero, List.set_cons_succ])
        refine reg_on (i := 5) (d := 4) (v := ?rv4) rfl rfl (by kernel_rfl) (by kernel_rfl) (by kernel_rfl) (fun _ _ _ h => h) (by rfl) ?ry4 (by assumption) ?rr4
        case ry4 => (intro wz hSw; (try dsimp only at hSw); go_simp; try with_reducible rfl)
        (try simp only [Act.put, List.setIfInBounds_toArray, List.set_cons_zero, List.set_cons_succ])
        refine reg_on (i := 6) (d := 5) (v := ?rv5) rfl rfl (by kernel_rfl) (by kernel_rfl) (by kernel_rfl) (fun _ _ _ h => h) (by rfl) ?ry5 (by assumption) ?rr5
        case ry5 => (intro wz hSw; (try dsimp only at hSw); go_simp; try with_reducible rfl)
        (try simp only [Act.put, List.setIfInBounds_toArray, List.set_cons_zero, List.set_cons_succ])
        refine wpAnyH_done (by kernel_rfl) ?_ _
        have hbF := HB2.out.trans (hb5.mono HB2.out.size)
        go_wp2
        go_ret2
        exact ⟨rfl, hbF⟩
      ·
        go_simp
        go_at_call 72; refine (clueTeller_any _).mono ?_; rintro e w3 ⟨KK, h0, rfl, ht3, hb3, hK3⟩; have t3 : w2.heap.size ≤ w3.heap.size := (by first | exact hb3.size | (have q := hb3.size; simp at q; omega)); have a0 := (hb3.cell (p := ⟨w.heap.size, 0, none⟩) (by first | exact hz2 | (show w.heap.size < (w2.alloc _).heap.size; simp; omega) | (simp; omega) | omega)).trans (show _ = some (Value.int .i64 k) by first | assumption | (go_split_ands; assumption)); have a1 := (hb3.cell (p := ⟨w.heap.size, 1, none⟩) (by first | exact hz2 | (show w.heap.size < (w2.alloc _).heap.size; simp; omega) | (simp; omega) | omega)).trans (show _ = some (Value.int .i64 a) by first | assumption | (go_split_ands; assumption)); have a2 := (hb3.cell (p := ⟨w.heap.size, 2, none⟩) (by first | exact hz2 | (show w.heap.size < (w2.alloc _).heap.size; simp; omega) | (simp; omega) | omega)).trans (show _ = some (Value.int .i64 b) by first | assumption | (go_split_ands; assumption)); have hx3 : BoxF w3 w1.heap.size f := (by first | exact HX2.out.below ((Below.refl _ _).drew.trans hb3) (Nat.le_refl _) | exact (HX2.out.below (((Below.refl w2.heap.size w2).alloc (Nat.le_refl _) (.cells #[.int .i64 k, .int .i64 a, .int .i64 b] 25)).drew) (Nat.le_refl _)).below hb3 (Nat.le_refl _)); obtain ⟨x0, x1, x2, x3, x4, x5⟩ := hx3.cells
        refine hK.out _ _ ?_ (fun hHeld => ?_)
        · ((try dsimp only); (repeat' apply And.intro); all_goals ((repeat (first | (with_reducible refine cell_drew ?_) | (with_reducible refine cell_drewN _ ?_) | ((with_reducible refine cell_alloc ?_ ?_); · first | omega | (simp; done) | (simp; omega) | assumption) | ((with_reducible refine cell_set ?_ ?_); · first | (intro e; injection e; omega) | (intro e; simp at e; done) | (intro e; simp at e; omega)))); first | assumption | (simp; done)))
        clear hK K
        (try simp only [Act.put, List.setIfInBounds_toArray, List.set_cons_zero, List.set_cons_succ])
        refine wpAnyH_ready (rs := [1]) (by kernel_rfl) (by simp) ?_
        refine AllReadyH.cons rfl (fun K hK => ?_) (AllReadyH.nil)
        go_simp
        refine hK.out _ _ ?_ (fun hHeld => ?_)
        · ((try dsimp only); (repeat' apply And.intro); all_goals ((repeat (first | (with_reducible refine cell_drew ?_) | (with_reducible refine cell_drewN _ ?_) | ((with_reducible refine cell_alloc ?_ ?_); · first | omega | (simp; done) | (simp; omega) | assumption) | ((with_reducible refine cell_set ?_ ?_); · first | (intro e; injection e; omega) | (intro e; simp at e; done) | (intro e; simp at e; omega)))); first | assumption | (simp; done)))
        clear hK K
        (try simp only [Act.put, List.setIfInBounds_toArray, List.set_cons_zero, List.set_cons_succ])
        refine wpAnyH_ready (rs := [4]) (by kernel_rfl) (by simp) ?_
        refine AllReadyH.cons rfl (fun K hK => ?_) AllReadyH.nil
        go_simp
        go_at_call 71; (first | refine (HO1.out KK h0 w3 ht3 hb3 hK3).mono ?_ | refine (HO2.out KK h0 w3 ht3 hb3 hK3).mono ?_); rintro e w5 ⟨rfl, hb5⟩; have v0 := (hb5.cell (p := ⟨w.heap.size, 0, none⟩) hz2).trans k0; have v1 := (hb5.cell (p := ⟨w.heap.size, 1, none⟩) hz2).trans k1; have v2 := (hb5.cell (p := ⟨w.heap.size, 2, none⟩) hz2).trans k2; have hx5 : BoxF w5 w1.heap.size f := HX2.out.below hb5 (Nat.le_refl _); obtain ⟨x0, x1, x2, x3, x4, x5⟩ := hx5.cells
        refine hK.out _ _ ?_ (fun hHeld => ?_)
        · ((try dsimp only); (repeat' apply And.intro); all_goals ((repeat (first | (with_reducible refine cell_drew ?_) | (with_reducible refine cell_drewN _ ?_) | ((with_reducible refine cell_alloc ?_ ?_); · first | omega | (simp; done) | (simp; omega) | assumption) | ((with_reducible refine cell_set ?_ ?_); · first | (intro e; injection e; omega) | (intro e; simp at e; done) | (intro e; simp at e; omega)))); first | assumption | (simp; done)))
        clear hK K
        (try simp only [Act.put, List.setIfInBounds_toArray, List.set_cons_zero, List.set_cons_succ])
        refine reg_on (i := 5) (d := 4) (v := ?rv7) rfl rfl (by kernel_rfl) (by kernel_rfl) (by kernel_rfl) (fun _ _ _ h => h) (by rfl) ?ry7 (by assumption) ?rr7
        case ry7 => (intro wz hSw; (try dsimp only at hSw); go_simp; try with_reducible rfl)
        (try simp only [Act.put, List.setIfInBounds_toArray, List.set_cons_zero, List.set_cons_succ])
        refine reg_on (i := 6) (d := 5) (v := ?rv8) rfl rfl (by kernel_rfl) (by kernel_rfl) (by kernel_rfl) (fun _ _ _ h => h) (by rfl) ?ry8 (by assumption) ?rr8
        case ry8 => (intro wz hSw; (try dsimp only at hSw); go_simp; try with_reducible rfl)
        (try simp only [Act.put, List.setIfInBounds_toArray, List.set_cons_zero, List.set_cons_succ])
        refine wpAnyH_done (by kernel_rfl) ?_ _
        have hbF := HB2.out.trans (hb5.mono HB2.out.size)
        go_wp2
        go_ret2
        exact ⟨rfl, hbF⟩

set_option maxRecDepth 100000 in
set_option maxHeartbeats 4000000 in
theorem sDoesFit_any (k a b : Int) (A : Option Addr) (n c : Nat) (l : List Int) (w : World) (hr : Rd w 1 A n (intCells l)) (hn : n ≤ 1000000000) :
    Calls Try.prog 26 #[bx3 k a b, .slice A n c] w fun e w' => e = .returned (.tuple #[.bool (dfR (k, a, b) l), .bool (dfB (k, a, b) l)]) ∧ Below w.heap.size w w' := by
  have HG := Lib.hid (fun wx h => pzHidden_any A n c l wx h hn)
  have hbc : Below w.heap.size w (w.alloc (.cells #[.int .i64 k, .int .i64 a, .int .i64 b] 25)) := by (repeat (first | (with_reducible exact Below.refl _ _) | (with_reducible assumption) | (with_reducible refine Below.drew ?_) | ((with_reducible refine balloc ?_ _ ?_); · (first | (simp; done) | (simp; omega) | omega)) | ((with_reducible refine bset ?_ _ ?_); · (first | (simp; done) | (simp; omega) | omega)) | (with_reducible refine bdrewN _ ?_) | ((with_reducible refine bcall ?_ (by assumption) ?_); · (first | (simp; done) | (simp; omega) | omega))))
  have hll := hr.ilen
  cases hh : hidB l
  · have e1 : dfB (k, a, b) l = false := by simp [dfB, hh]
    rw [show dfR (k, a, b) l = false by simp [dfR, e1], e1]
    rw [hh] at HG
    clear hh e1
    go_enter Try.func26, Try.ntmps26
    go_wp2_with fail
    refine (HG.out _ (hr.later (B := w.heap.size) hbc (Nat.le_refl _))).mono ?_; rintro e w1 ⟨rfl, hb1⟩
    have hB1 := hbc.trans (hb1.mono hbc.size)
    go_wp2
    go_ret2
    exact ⟨rfl, hB1⟩
  · have HH := Lib.hid (hidB_true hh)
    rw [hh] at HG
    have HQB : Hid (dfB (k, a, b) l = cluB (k, a, b)) := by simp [Hid, dfB, hh]
    clear hh
    have HC := Lib.hid (pzClue_any k a b)
    cases hq : cluB (k, a, b)
    · have e1 : dfB (k, a, b) l = false := by rw [HQB.out, hq]
      rw [show dfR (k, a, b) l = false by simp [dfR, e1], e1]
      rw [hq] at HC
      clear hq e1
      go_enter Try.func26, Try.ntmps26
      go_wp2_with fail
      refine (HG.out _ (hr.later (B := w.heap.size) hbc (Nat.le_refl _))).mono ?_; rintro e w1 ⟨rfl, hb1⟩
      have s1 := hb1.size
      simp at s1
      have hB1 := hbc.trans (hb1.mono hbc.size)
      obtain ⟨hc1, hf1⟩ := bcell hb1
      have z0 : w.heap.size < w1.heap.size := by omega
      clear hb1
      go_wp2_with fail
      refine (HC.out _).mono ?_; rintro e w2 ⟨rfl, hb2⟩
      have hB2 := hB1.trans (hb2.mono hB1.size)
      go_wp2
      go_ret2
      exact ⟨rfl, hB2⟩
    · have e1 : dfB (k, a, b) l = true := by rw [HQB.out, hq]
      rw [show dfR (k, a, b) l = fitB (k, a, b) l by simp [dfR, e1], e1]
      rw [hq] at HC
      have HCQ := Lib.hid (cluB_true hq)
      have HFT : Hid (fitB (k, a, b) l = decide (tellI k a l = b)) := rfl
      clear hq e1 HQB
      go_enter Try.func26, Try.ntmps26
      go_wp2_with fail
      refine (HG.out _ (hr.later (B := w.heap.size) hbc (Nat.le_refl _))).mono ?_; rintro e w1 ⟨rfl, hb1⟩
      have s1 := hb1.size
      simp at s1
      have hB1 := hbc.trans (hb1.mono hbc.size)
      have d0 : w1.cell? ⟨w.heap.size, 0, none⟩ = some (.int .i64 k) := (hb1.cell (p := ⟨w.heap.size, 0, none⟩) (by simp)).trans (by simp [go_sem])
      have d1 : w1.cell? ⟨w.heap.size, 1, none⟩ = some (.int .i64 a) := (hb1.cell (p := ⟨w.heap.size, 1, none⟩) (by simp)).trans (by simp [go_sem])
      have d2 : w1.cell? ⟨w.heap.size, 2, none⟩ = some (.int .i64 b) := (hb1.cell (p := ⟨w.heap.size, 2, none⟩) (by simp)).trans (by simp [go_sem])
      have z0 : w.heap.size < w1.heap.size := by omega
      clear hb1
      go_wp2_with fail
      refine (HC.out _).mono ?_; rintro e w2 ⟨rfl, hb2⟩
      have k0 := (hb2.cell (p := ⟨w.heap.size, 0, none⟩) z0).trans d0
      have k1 := (hb2.cell (p := ⟨w.heap.size, 1, none⟩) z0).trans d1
      have k2 := (hb2.cell (p := ⟨w.heap.size, 2, none⟩) z0).trans d2
      have s2 := hb2.size
      have z2 : w.heap.size < w2.heap.size := by omega
      have hB2 := hB1.trans (hb2.mono hB1.size)
      have HB2 := Lib.hid hB2
      have HR2 := Lib.hid (hr.later hB2 (Nat.le_refl _))
      have HPV : Hid (∀ (g : Nat) (w3 : World), Below w2.heap.size w2 w3 → TabAt w3 g → Calls Try.prog 68 #[.int .i64 k, .int .i64 a, .slice A n c, .slice (some ⟨g, 0, none⟩) 117649 117649] w3 fun e w' => e = .returned (.int .i64 (tellI k a l)) ∧ Below w3.heap.size w3 w') := fun g w3 hb ht => by
        have h := pzValue_any k a A n c l g w3 ⟨HCQ.out.1, HCQ.out.2.1⟩ HCQ.out.2.2.1 (HR2.out.later hb (Nat.le_refl _)) HH.out.1 HH.out.2.1 HH.out.2.2 ht
        exact h
      generalize tellI k a l = tv at *
      clear d0 d1 d2 hb2 hB2 hB1
      go_wp2
      refine wp_region_held_drew (S := (fun w' => w'.cell? ⟨w.heap.size, 0, none⟩ = some (.int .i64 k) ∧ w'.cell? ⟨w.heap.size, 1, none⟩ = some (.int .i64 a) ∧ w'.cell? ⟨w.heap.size, 2, none⟩ = some (.int .i64 b))) (by kernel_rfl) ?_ (fun hHeld => ?_)
      · ((try dsimp only); (repeat' apply And.intro); all_goals ((repeat (first | (with_reducible refine cell_drew ?_) | (with_reducible refine cell_drewN _ ?_) | ((with_reducible refine cell_alloc ?_ ?_); · first | omega | (simp; done) | (simp; omega) | assumption) | ((with_reducible refine cell_set ?_ ?_); · first | (intro e; injection e; omega) | (intro e; simp at e; done) | (intro e; simp at e; omega)))); first | assumption | (simp; done)))
      refine reg_on (i := 0) (d := 14) (v := ?rv9) rfl rfl (by kernel_rfl) (by kernel_rfl) (by kernel_rfl) (fun _ _ _ h => h) (by rfl) ?ry9 (by assumption) ?rr9
      case ry9 => (intro wz hSw; (try dsimp only at hSw); go_simp; try with_reducible rfl)
      (try simp only [Act.put, List.setIfInBounds_toArray, List.set_cons_zero, List.set_cons_succ])
      refine reg_on (i := 1) (d := 15) (v := ?rv10) rfl rfl (by kernel_rfl) (by kernel_rfl) (by kernel_rfl) (fun _ _ _ h => h) (by rfl) ?ry10 (by assumption) ?rr10
      case ry10 => (intro wz hSw; (try dsimp only at hSw); go_simp; try with_reducible rfl)
      (try simp only [Act.put, List.setIfInBounds_toArray, List.set_cons_zero, List.set_cons_succ])
      refine reg_on (i := 2) (d := 16) (v := ?rv11) rfl rfl (by kernel_rfl) (by kernel_rfl) (by kernel_rfl) (fun _ _ _ h => h) (by rfl) ?ry11 (by assumption) ?rr11
      case ry11 => (intro wz hSw; (try dsimp only at hSw); go_simp; try with_reducible rfl)
      (try simp only [Act.put, List.setIfInBounds_toArray, List.set_cons_zero, List.set_cons_succ])
      refine reg_on (i := 3) (d := 17) (v := ?rv12) rfl rfl (by kernel_rfl) (by kernel_rfl) (by kernel_rfl) (fun _ _ _ h => h) (by rfl) ?ry12 (by assumption) ?rr12
      case ry12 => (intro wz hSw; (try dsimp only at hSw); go_simp; try with_reducible rfl)
      (try simp only [Act.put, List.setIfInBounds_toArray, List.set_cons_zero, List.set_cons_succ])
      refine reg_on (i := 4) (d := 18) (v := ?rv13) rfl rfl (by kernel_rfl) (by kernel_rfl) (by kernel_rfl) (fun _ _ _ h => h) (by rfl) ?ry13 (by assumption) ?rr13
      case ry13 => (intro wz hSw; (try dsimp only at hSw); go_simp; try with_reducible rfl)
      (try simp only [Act.put, List.setIfInBounds_toArray, List.set_cons_zero, List.set_cons_succ])
      refine reg_on (i := 7) (d := 21) (v := ?rv14) rfl rfl (by kernel_rfl) (by kernel_rfl) (by kernel_rfl) (fun _ _ _ h => h) (by rfl) ?ry14 (by assumption) ?rr14
      case ry14 => (intro wz hSw; (try dsimp only at hSw); go_simp; try with_reducible rfl)
      (try simp only [Act.put, List.setIfInBounds_toArray, List.set_cons_zero, List.set_cons_succ])
      refine reg_on (i := 8) (d := 22) (v := ?rv15) rfl rfl (by kernel_rfl) (by kernel_rfl) (by kernel_rfl) (fun _ _ _ h => h) (by rfl) ?ry15 (by assumption) ?rr15
      case ry15 => (intro wz hSw; (try dsimp only at hSw); go_simp; try with_reducible rfl)
      (try simp only [Act.put, List.setIfInBounds_toArray, List.set_cons_zero, List.set_cons_succ])
      refine wpAnyH_ready (rs := [5]) (by kernel_rfl) (by simp) ?_
      refine AllReadyH.cons rfl (fun K hK => ?_) AllReadyH.nil
      go_simp
      go_at_call 69; refine (pzHeaps_any _).mono ?_; rintro e w3 ⟨g, rfl, ht3, hb3⟩; replace hb3 := (Below.refl w2.heap.size w2).drew.trans hb3; have a0 := (hb3.cell (p := ⟨w.heap.size, 0, none⟩) z2).trans k0; have a1 := (hb3.cell (p := ⟨w.heap.size, 1, none⟩) z2).trans k1; have a2 := (hb3.cell (p := ⟨w.heap.size, 2, none⟩) z2).trans k2
      refine hK.out _ _ ?_ (fun hHeld => ?_)
      · ((try dsimp only); (repeat' apply And.intro); all_goals ((repeat (first | (with_reducible refine cell_drew ?_) | (with_reducible refine cell_drewN _ ?_) | ((with_reducible refine cell_alloc ?_ ?_); · first | omega | (simp; done) | (simp; omega) | assumption) | ((with_reducible refine cell_set ?_ ?_); · first | (intro e; injection e; omega) | (intro e; simp at e; done) | (intro e; simp at e; omega)))); first | assumption | (simp; done)))
      clear hK K
      (try simp only [Act.put, List.setIfInBounds_toArray, List.set_cons_zero, List.set_cons_succ])
      refine wpAnyH_ready (rs := [6]) (by kernel_rfl) (by simp) ?_
      refine AllReadyH.cons rfl (fun K hK => ?_) AllReadyH.nil
      go_simp
      go_at_call 68; refine (HPV.out g w3 hb3 ht3).mono ?_; rintro e w4 ⟨rfl, hb4⟩; replace hb4 := hb3.trans (hb4.mono hb3.size); have a3 := (hb4.cell (p := ⟨w.heap.size, 0, none⟩) z2).trans k0; have a4 := (hb4.cell (p := ⟨w.heap.size, 1, none⟩) z2).trans k1; have a5 := (hb4.cell (p := ⟨w.heap.size, 2, none⟩) z2).trans k2
      refine hK.out _ _ ?_ (fun hHeld => ?_)
      · ((try dsimp only); (repeat' apply And.intro); all_goals ((repeat (first | (with_reducible refine cell_drew ?_) | (with_reducible refine cell_drewN _ ?_) | ((with_reducible refine cell_alloc ?_ ?_); · first | omega | (simp; done) | (simp; omega) | assumption) | ((with_reducible refine cell_set ?_ ?_); · first | (intro e; injection e; omega) | (intro e; simp at e; done) | (intro e; simp at e; omega)))); first | assumption | (simp; done)))
      clear hK K
      (try simp only [Act.put, List.setIfInBounds_toArray, List.set_cons_zero, List.set_cons_succ])
      refine reg_on (i := 9) (d := 23) (v := ?rv18) rfl rfl (by kernel_rfl) (by kernel_rfl) (by kernel_rfl) (fun _ _ _ h => h) (by rfl) ?ry18 (by assumption) ?rr18
      case ry18 => (intro wz hSw; (try dsimp only at hSw); go_simp; try with_reducible rfl)
      (try simp only [Act.put, List.setIfInBounds_toArray, List.set_cons_zero, List.set_cons_succ])
      refine reg_on (i := 10) (d := 4) (v := ?rv19) rfl rfl (by kernel_rfl) (by kernel_rfl) (by kernel_rfl) (fun _ _ _ h => h) (by rfl) ?ry19 (by assumption) ?rr19
      case ry19 => (intro wz hSw; (try dsimp only at hSw); go_simp; try with_reducible rfl)
      (try simp only [Act.put, List.setIfInBounds_toArray, List.set_cons_zero, List.set_cons_succ])
      refine reg_on (i := 11) (d := 5) (v := ?rv20) rfl rfl (by kernel_rfl) (by kernel_rfl) (by kernel_rfl) (fun _ _ _ h => h) (by rfl) ?ry20 (by assumption) ?rr20
      case ry20 => (intro wz hSw; (try dsimp only at hSw); go_simp; try with_reducible rfl)
      (try simp only [Act.put, List.setIfInBounds_toArray, List.set_cons_zero, List.set_cons_succ])
      refine wpAnyH_done (by kernel_rfl) ?_ _
      have hbF := HB2.out.trans (hb4.mono HB2.out.size)
      go_wp2
      go_ret2
      exact ⟨by rw [HFT.out]; rfl, hbF⟩
end Go.Proofs.Ytghlgmbekgfmnaa
