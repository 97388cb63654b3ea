/-
  Contracts: pzOf, MakePuzzle of the model. Conditions: none.
-/
import Derived.Test.YtghlgmbekgfmnaaPzK
namespace Go.Proofs.Ytghlgmbekgfmnaa
open Go.RowKit Go.Maps
set_option linter.unusedVariables false
set_option linter.unusedSimpArgs false

theorem TabAt.grownO {w w' : World} {g : Nat} {q : Option Nat} (h : TabAt w g) (hg : w.grownBy w' q) (hq : some g ≠ q) : TabAt w' g := by
  obtain ⟨tbl, ho, ht⟩ := h
  exact ⟨tbl, World.ownsRow.kept ho hg (.inr (by simpa [Value.ownBlock] using hq)), ht⟩
theorem TabAt.setO {w : World} {g b o : Nat} (h : TabAt w g) (u : Value) (hb : g ≠ b) : TabAt (w.setCell ⟨b, o, none⟩ u) g := by
  obtain ⟨tbl, ho, ht⟩ := h
  exact ⟨tbl, own_setO ho u (by simpa [Value.ownBlock] using hb), ht⟩

theorem l1In_ok (n a b : Int) (w : World) (h : a ≤ n ∧ n ≤ b) : Calls Try.prog 81 #[.int .i64 n, .int .i64 a, .int .i64 b] w fun e w' => e = .returned (.bool true) ∧ w = w' :=
  (l1In_any n a b w).mono fun e w' ⟨he, hw⟩ => ⟨by rw [he]; simp [inB, h], hw⟩

set_option maxHeartbeats 1000000 in
theorem pzHeaps_ge (w : World) :
    Calls Try.prog 69 #[] w fun e w' => ∃ g, e = .returned (.slice (some ⟨g, 0, none⟩) 117649 117649) ∧ w.heap.size ≤ g ∧ TabAt w' g ∧ Below w.heap.size w w' := by
  have HC := Lib.hid (cmHeaps_any 5 4 w (by decide) (by decide))
  go_enter Try.func69, Try.ntmps69
  go_wp2_with fail
  refine (HC.out).mono ?_; rintro e w1 ⟨g, tbl, rfl, ho, ht, hb⟩
  go_wp2
  go_ret
  exact ⟨g, rfl, (ho.lt g rfl).1, ⟨tbl, own_base ho (Nat.zero_le _), ht⟩, hb⟩

set_option maxRecDepth 100000 in
set_option maxHeartbeats 4000000 in
theorem pzOf_any (k y : Int) (A : Option Addr) (n c : Nat) (l : List Int) (g : Nat) (w : World) (hk : 0 ≤ k ∧ k < 6) (hy : 0 ≤ y ∧ y ≤ 10006) (hr : Rd w 1 A n (intCells l)) (hl : ChOK l) (h4 : l.length ≤ 4) (h5 : l.getD 0 0 ≤ 5) (ht : TabAt w g) :
    Calls Try.prog 87 #[.int .i64 k, .int .i64 y, .slice A n c, .slice (some ⟨g, 0, none⟩) 117649 117649] w fun e w' => e = .returned (bx3 k (mkA k y) (tellI k (mkA k y) l)) ∧ Below w.heap.size w w' := by
  have hA := mkA_in k hy.1
  have HV := Lib.hid (fun (wx : World) (h : Rd wx 1 A n (intCells l)) (t : TabAt wx g) => pzValue_any k (mkA k y) A n c l g wx hk hA.1 h hl h4 h5 t)
  have hb0 : Below w.heap.size w (w.alloc (.cells #[.int .i64 0, .int .i64 0, .int .i64 0] 25)) := by (repeat (first | (with_reducible exact Below.refl _ _) | (with_reducible assumption) | (with_reducible refine Below.drew ?_) | ((with_reducible refine balloc ?_ _ ?_); · (first | (simp; done) | (simp; omega) | omega)) | ((with_reducible refine bset ?_ _ ?_); · (first | (simp; done) | (simp; omega) | omega)) | (with_reducible refine bdrewN _ ?_) | ((with_reducible refine bcall ?_ (by assumption) ?_); · (first | (simp; done) | (simp; omega) | omega))))
  have HR := Lib.hid (hr.later hb0 (Nat.le_refl _))
  have HT := Lib.hid (ht.later hb0 (Nat.le_refl _))
  have HB := Lib.hid hb0
  have hz : k = 1 → y.tmod 4 = mkA k y := fun e => by subst e; rfl
  have hz4 : k = 4 → y.tmod 5 = mkA k y := fun e => by subst e; rfl
  have hz0 : k ≠ 1 → k ≠ 4 → mkA k y = 0 := fun e1 e4 => by simp [mkA, mostA, e1, e4]
  generalize htv : tellI k (mkA k y) l = tv at *
  generalize mkA k y = a at *
  have h1 : IntKind.i64.wrap a = a := IntWalk.i64_in _ (by have := mostA_le k; omega)
  clear hr ht hb0 htv hl h4 h5
  have TAIL : ∀ w4, Below (w.alloc (.cells #[.int .i64 0, .int .i64 0, .int .i64 0] 25)).heap.size (w.alloc (.cells #[.int .i64 0, .int .i64 0, .int .i64 0] 25)) w4 → (w4.cell? ⟨w.heap.size, 0, none⟩ = some (.int .i64 0) ∧ w4.cell? ⟨w.heap.size, 1, none⟩ = some (.int .i64 0) ∧ w4.cell? ⟨w.heap.size, 2, none⟩ = some (.int .i64 0) ∧ w4.frozen? ⟨w.heap.size, 0, none⟩ = false ∧ w4.frozen? ⟨w.heap.size, 1, none⟩ = false ∧ w4.frozen? ⟨w.heap.size, 2, none⟩ = false) ∧ Below w.heap.size w w4 := fun w4 hb => ⟨⟨(hb.cell (p := ⟨w.heap.size, 0, none⟩) (by simp)).trans (by simp [go_sem]), (hb.cell (p := ⟨w.heap.size, 1, none⟩) (by simp)).trans (by simp [go_sem]), (hb.cell (p := ⟨w.heap.size, 2, none⟩) (by simp)).trans (by simp [go_sem]), (hb.frozen (p := ⟨w.heap.size, 0, none⟩) (by simp)).trans (by simp [go_sem]), (hb.frozen (p := ⟨w.heap.size, 1, none⟩) (by simp)).trans (by simp [go_sem]), (hb.frozen (p := ⟨w.heap.size, 2, none⟩) (by simp)).trans (by simp [go_sem])⟩, HB.out.trans (hb.mono HB.out.size)⟩
  have HTL := Lib.hid TAIL
  clear TAIL
  rcases (show k = 0 ∨ k = 1 ∨ k = 2 ∨ k = 3 ∨ k = 4 ∨ k = 5 by omega) with rfl | rfl | rfl | rfl | rfl | rfl
  case inr.inl =>
    have hz := hz rfl
    clear hz4 hz0 hk hy hA
    go_enter Try.func87, Try.ntmps87
    go_wp2_with fail
    refine (HV.out _ HR.out HT.out).mono ?_; rintro e w4 ⟨rfl, hb4⟩
    obtain ⟨⟨g0, g1, g2, z0, z1, z2⟩, hB⟩ := HTL.out w4 hb4
    clear hb4
    go_wp2
    refine bodyPost_ret (v := bx3 1 a tv) (by simp [results, Try.results87, go_sem, g0, g1, g2]) rfl ⟨rfl, ?_⟩
    exact bset (p := ⟨w.heap.size, 2, none⟩) (Nat.le_refl _) _ (bset (p := ⟨w.heap.size, 1, none⟩) (Nat.le_refl _) _ (bset (p := ⟨w.heap.size, 0, none⟩) (Nat.le_refl _) _ hB))
  case inr.inr.inr.inr.inl =>
    have hz4 := hz4 rfl
    clear hz hz0 hk hy hA
    go_enter Try.func87, Try.ntmps87
    go_wp2_with fail
    refine (HV.out _ HR.out HT.out).mono ?_; rintro e w4 ⟨rfl, hb4⟩
    obtain ⟨⟨g0, g1, g2, z0, z1, z2⟩, hB⟩ := HTL.out w4 hb4
    clear hb4
    go_wp2
    refine bodyPost_ret (v := bx3 4 a tv) (by simp [results, Try.results87, go_sem, g0, g1, g2]) rfl ⟨rfl, ?_⟩
    exact bset (p := ⟨w.heap.size, 2, none⟩) (Nat.le_refl _) _ (bset (p := ⟨w.heap.size, 1, none⟩) (Nat.le_refl _) _ (bset (p := ⟨w.heap.size, 0, none⟩) (Nat.le_refl _) _ hB))
  all_goals
    obtain rfl : a = 0 := hz0 (by decide) (by decide)
    clear hz hz4 hz0 hk hy hA
    go_enter Try.func87, Try.ntmps87
    go_wp2_with fail
    refine (HV.out _ HR.out HT.out).mono ?_; rintro e w4 ⟨rfl, hb4⟩
    obtain ⟨⟨g0, g1, g2, z0, z1, z2⟩, hB⟩ := HTL.out w4 hb4
    clear hb4
    go_wp2
    refine bodyPost_ret (by simp [results, Try.results87, go_sem, g0, g1, g2]) rfl ⟨rfl, ?_⟩
    exact bset (p := ⟨w.heap.size, 2, none⟩) (Nat.le_refl _) _ (bset (p := ⟨w.heap.size, 1, none⟩) (Nat.le_refl _) _ (bset (p := ⟨w.heap.size, 0, none⟩) (Nat.le_refl _) _ hB))

set_option maxRecDepth 100000 in
set_option maxHeartbeats 8000000 in
theorem sMakePuzzle_any (A : Option Addr) (n c : Nat) (l : List Int) (cl sd : Int) (w : World) (hr : Rd w 1 A n (intCells l)) (hn : n ≤ 1000000000) :
    Calls Try.prog 59 #[.slice A n c, .int .i64 cl, .int .i64 sd] w fun e w' => ∃ A' n' c', e = .returned (.tuple #[puzV A' n' c', .bool (mdB l cl sd)]) ∧ w'.ownsRow w.heap.size 25 3 (.slice A' n' c') n' (boxCells (mdR l cl sd)) ∧ Below w.heap.size w w' := by
  have HG := Lib.hid (fun wx h => pzHidden_any A n c l wx h hn)
  have hb0 : Below w.heap.size w (w.alloc (.cells #[.slice none 0 0] 35)) := by (repeat (first | (with_reducible exact Below.refl _ _) | (with_reducible assumption) | (with_reducible refine Below.drew ?_) | ((with_reducible refine balloc ?_ _ ?_); · (first | (simp; done) | (simp; omega) | omega)) | ((with_reducible refine bset ?_ _ ?_); · (first | (simp; done) | (simp; omega) | omega)) | (with_reducible refine bdrewN _ ?_) | ((with_reducible refine bcall ?_ (by assumption) ?_); · (first | (simp; done) | (simp; omega) | omega))))
  cases hd : mdB l cl sd
  · rw [show mdR l cl sd = [] by simp [mdR, hd]]
    have hcase : hidB l = false ∨ (hidB l = true ∧ ¬ (0 ≤ cl ∧ cl ≤ 6)) ∨ (hidB l = true ∧ (0 ≤ cl ∧ cl ≤ 6) ∧ ¬ (0 ≤ sd ∧ sd ≤ 9999)) := by
      cases hh : hidB l
      · exact .inl rfl
      · by_cases a1 : 0 ≤ cl ∧ cl ≤ 6
        · by_cases a2 : 0 ≤ sd ∧ sd ≤ 9999
          · rw [mdB, hh] at hd
            simp at hd
            omega
          · exact .inr (.inr ⟨rfl, a1, a2⟩)
        · exact .inr (.inl ⟨rfl, a1⟩)
    clear hd
    have HIN := Lib.hid (fun n a b wx => l1In_any n a b wx)
    rcases hcase with hh | ⟨hh, k1⟩ | ⟨hh, k1, k2⟩
    all_goals
      rw [hh] at HG
      clear hh
      have i1 : inB cl 0 6 = decide (0 ≤ cl ∧ cl ≤ 6) := rfl
      have i2 : inB sd 0 9999 = decide (0 ≤ sd ∧ sd ≤ 9999) := rfl
      try rw [decide_eq_false k1] at i1
      try rw [decide_eq_true k1] at i1
      try rw [decide_eq_false k2] at i2
      go_enter Try.func59, Try.ntmps59
      go_wp2_with (go_at_call 81; refine (HIN.out _ _ _ _).mono ?_; rintro e wx ⟨rfl, rfl⟩; (try rw [i1]); (try rw [i2]))
      refine (HG.out _ (hr.later (B := w.heap.size) hb0 (Nat.le_refl _))).mono ?_; rintro e w1 ⟨rfl, hb1⟩
      have s1 := hb1.size
      simp at s1
      have d0 : w1.cell? ⟨w.heap.size, 0, none⟩ = some (.slice none 0 0) := (hb1.cell (p := ⟨w.heap.size, 0, none⟩) (by simp)).trans (by simp [go_sem])
      have f0 : w1.frozen? ⟨w.heap.size, 0, none⟩ = false := (hb1.frozen (p := ⟨w.heap.size, 0, none⟩) (by simp)).trans (by simp [go_sem])
      have hB1 := hb0.trans (hb1.mono hb0.size)
      have z0 : w.heap.size < w1.heap.size := by omega
      clear hb1
      go_wp2_with (go_at_call 81; refine (HIN.out _ _ _ _).mono ?_; rintro e wx ⟨rfl, rfl⟩; (try rw [i1]); (try rw [i2]))
      refine bodyPost_ret (v := .tuple #[puzV none 0 0, .bool false]) (by simp [results, Try.results59, go_sem, d0, z0]) rfl ⟨none, 0, 0, rfl, World.ownsRow_nil _ _ _ _, ?_⟩
      exact bset (p := ⟨w.heap.size, 0, none⟩) (Nat.le_refl _) _ hB1
  · obtain ⟨hh, hc0, hc6, hs0, hs9⟩ : hidB l = true ∧ 0 ≤ cl ∧ cl ≤ 6 ∧ 0 ≤ sd ∧ sd ≤ 9999 := by
      simp only [mdB, Bool.and_eq_true, decide_eq_true_eq] at hd
      exact ⟨hd.1, hd.2.1.1, hd.2.1.2, hd.2.2.1, hd.2.2.2⟩
    obtain ⟨i0, hi, hz0, hi1, hi2⟩ := info_parts clue_info
    have HLR : Hid (mdR l cl sd = mdK l sd cl.toNat) := by simp [Hid, mdR, hd]
    obtain ⟨cn, rfl⟩ : ∃ cn : Nat, cl = cn := ⟨cl.toNat, by omega⟩
    rw [Int.toNat_natCast] at HLR
    have HH := Lib.hid (hidB_true hh)
    rw [hh] at HG
    have HI1 := Lib.hid (fun wx => l1In_ok (cn : Int) 0 6 wx (by omega))
    have HI2 := Lib.hid (fun wx => l1In_ok sd 0 9999 wx (by omega))
    have HPH := Lib.hid (fun wx => pzHeaps_ge wx)
    have HZ := Lib.hid (fun k => zK_in (z := sd) (by omega) k)
    clear hh hd
    go_enter Try.func59, Try.ntmps59
    go_wp2_with fail
    refine (HG.out _ (hr.later (B := w.heap.size) hb0 (Nat.le_refl _))).mono ?_; rintro e w1 ⟨rfl, hb1⟩
    have s1 := hb1.size
    simp at s1
    have d0 : w1.cell? ⟨w.heap.size, 0, none⟩ = some (.slice none 0 0) := (hb1.cell (p := ⟨w.heap.size, 0, none⟩) (by simp)).trans (by simp [go_sem])
    have f0 : w1.frozen? ⟨w.heap.size, 0, none⟩ = false := (hb1.frozen (p := ⟨w.heap.size, 0, none⟩) (by simp)).trans (by simp [go_sem])
    have hB1 := hb0.trans (hb1.mono hb0.size)
    have hba : Below w1.heap.size w1 (w1.alloc (.cells #[.slice none 0 0] 35)) := (Below.refl _ _).alloc (Nat.le_refl _) _
    have z0 : w.heap.size < w1.heap.size := by omega
    clear hb1
    go_wp2_with fail
    refine (HI1.out _).mono ?_; rintro e wx ⟨rfl, rfl⟩
    go_wp2_with fail
    refine (HI2.out _).mono ?_; rintro e wx ⟨rfl, rfl⟩
    go_wp2_with fail
    refine (HPH.out _).mono ?_; rintro e w2 ⟨g, rfl, hge, ht2, hb2⟩
    have s2 := hb2.size
    rw [show (w1.alloc (.cells #[.slice none 0 0] 35)).heap.size = w1.heap.size + 1 by simp] at s2 hge
    have HDM : Hid (w2.cell? ⟨w1.heap.size, 0, none⟩ = some (.slice none 0 0)) := (hb2.cell (p := ⟨w1.heap.size, 0, none⟩) (by simp)).trans (by simp [go_sem])
    have HFM : Hid (w2.frozen? ⟨w1.heap.size, 0, none⟩ = false) := (hb2.frozen (p := ⟨w1.heap.size, 0, none⟩) (by simp)).trans (by simp [go_sem])
    have HB2 := Lib.hid (hba.trans (hb2.mono (by simp)))
    have HBW := Lib.hid hB1
    have HT2 := Lib.hid ht2
    have HD0 := Lib.hid d0
    have HF0 := Lib.hid f0
    have HR := Lib.hid hr
    clear hb2 ht2 hB1 hba d0 f0 hb0
    go_wp2
    go_loopw [1, 10] (fun q z wr => ∃ (k : Nat) (A' : Option Addr) (c' : Nat), k ≤ cn ∧ q = .int .i64 ((cn : Int) - k) ∧ z = .int .i64 (zK sd k) ∧ wr.cell? ⟨w1.heap.size, 0, none⟩ = some (.slice A' k c') ∧ wr.frozen? ⟨w1.heap.size, 0, none⟩ = false ∧ wr.ownsRow w2.heap.size 25 3 (.slice A' k c') k (boxCells (mdK l sd k)) ∧ TabAt wr g ∧ Below w1.heap.size w1 wr ∧ w2.heap.size ≤ wr.heap.size) (fun q _ _ => (intOf q).toNat)
    case atStart => exact ⟨0, none, 0, Nat.zero_le _, by go_num, rfl, HDM.out, HFM.out, World.ownsRow_nil _ _ _ _, HT2.out, HB2.out, Nat.le_refl _⟩
    case round =>
      clear HDM HFM
      obtain ⟨k, A', c', hk, rfl, rfl, hmc, hmf, hown, htab, hB, hsz⟩ := hrel
      have sB := hB.size
      by_cases hlt : k < cn
      · have hz := HZ.out k
        have hz1 := nxt_in hz
        have hz2 := nxt_in hz1
        have hzk : zK sd (k + 1) = nxt (nxt (zK sd k)) := rfl
        have HZK := Lib.hid hzk
        have hkd := kndI_in hz
        have HMD := Lib.hid (mdK_succ l sd k)
        rw [hzk] at HMD
        have hkk : (nxt (zK sd k)).tmod 6 = kndI (zK sd k) := rfl
        have HN1 := Lib.hid (fun wx => pzNext_any (zK sd k) wx hz)
        have HN2 := Lib.hid (fun wx => pzNext_any (nxt (zK sd k)) wx hz1)
        have HMC := Lib.hid (fun (wx : World) (h : Rd wx 1 A n (intCells l)) (t : TabAt wx g) => pzOf_any (kndI (zK sd k)) (nxt (nxt (zK sd k))) A n c l g wx hkd hz2 h HH.out.1 HH.out.2.1 HH.out.2.2 t)
        have hmkc : mkC (kndI (zK sd k)) (nxt (nxt (zK sd k))) l = (kndI (zK sd k), mkA (kndI (zK sd k)) (nxt (nxt (zK sd k))), tellI (kndI (zK sd k)) (mkA (kndI (zK sd k)) (nxt (nxt (zK sd k)))) l) := rfl
        rw [hmkc] at HMD
        generalize tellI (kndI (zK sd k)) (mkA (kndI (zK sd k)) (nxt (nxt (zK sd k)))) l = tv at *
        generalize mkA (kndI (zK sd k)) (nxt (nxt (zK sd k))) = av at *
        generalize kndI (zK sd k) = kd at *
        have hwk : IntKind.i64.wrap kd = kd := IntWalk.i64_in _ (by omega)
        generalize nxt (nxt (zK sd k)) = z2 at *
        generalize nxt (zK sd k) = z1 at *
        generalize zK sd k = zz at *
        have HOW := Lib.hid hown
        have HBB := Lib.hid hB
        have HTT := Lib.hid htab
        have HRR := Lib.hid (HR.out.later (HBW.out.trans (hB.mono HBW.out.size)) (Nat.le_refl _))
        have hc3 : k + 1 ≤ maxLen := by simp only [maxLen]; omega
        have hc4 : (k + 1) * 24 ≤ 140737488355328 := by omega
        have hgt : decide ((0 : Int) < (cn : Int) - k) = true := decide_eq_true (by omega)
        have hsub : IntKind.i64.wrap ((cn : Int) - k - 1) = (cn : Int) - k - 1 := IntWalk.i64_in _ (by omega)
        clear hown hB htab hzk hmkc
        go_wp2_with fail
        refine (HN1.out _).mono ?_; rintro e wx ⟨rfl, rfl⟩
        go_wp2_with fail
        refine (HN2.out _).mono ?_; rintro e wx ⟨rfl, rfl⟩
        go_wp2
        refine wp_region_held_drew (S := (fun w' => True)) (by kernel_rfl) ?_ (fun hHeld => ?_)
        · ((try dsimp only); (repeat' apply And.intro); all_goals ((repeat (first | (with_reducible refine cell_drew ?_) | (with_reducible refine cell_drewN _ ?_) | ((with_reducible refine cell_alloc ?_ ?_); · first | omega | (simp; done) | (simp; omega) | assumption) | ((with_reducible refine cell_set ?_ ?_); · first | (intro e; injection e; omega) | (intro e; simp at e; done) | (intro e; simp at e; omega)))); first | assumption | (simp; done)))
        refine reg_on (i := 0) (d := 39) (v := ?rv1) rfl rfl (by kernel_rfl) (by kernel_rfl) (by kernel_rfl) (fun _ _ _ h => h) (by rfl) ?ry1 (by assumption) ?rr1
        case ry1 => (intro wz hSw; (try dsimp only at hSw); go_simp; try with_reducible rfl)
        (try simp only [Act.put, List.setIfInBounds_toArray, List.set_cons_zero, List.set_cons_succ])
        refine reg_on (i := 2) (d := 41) (v := ?rv2) rfl rfl (by kernel_rfl) (by kernel_rfl) (by kernel_rfl) (fun _ _ _ h => h) (by rfl) ?ry2 (by assumption) ?rr2
        case ry2 => (intro wz hSw; (try dsimp only at hSw); go_simp; try with_reducible rfl)
        (try simp only [Act.put, List.setIfInBounds_toArray, List.set_cons_zero, List.set_cons_succ])
        refine reg_on (i := 3) (d := 42) (v := ?rv3) rfl rfl (by kernel_rfl) (by kernel_rfl) (by kernel_rfl) (fun _ _ _ h => h) (by rfl) ?ry3 (by assumption) ?rr3
        case ry3 => (intro wz hSw; (try dsimp only at hSw); go_simp; try with_reducible rfl)
        (try simp only [Act.put, List.setIfInBounds_toArray, List.set_cons_zero, List.set_cons_succ])
        refine reg_on (i := 4) (d := 43) (v := ?rv4) rfl rfl (by kernel_rfl) (by kernel_rfl) (by kernel_rfl) (fun _ _ _ h => h) (by rfl) ?ry4 (by assumption) ?rr4
        case ry4 => (intro wz hSw; (try dsimp only at hSw); go_simp; try with_reducible rfl)
        (try simp only [Act.put, List.setIfInBounds_toArray, List.set_cons_zero, List.set_cons_succ])
        refine reg_on (i := 5) (d := 44) (v := ?rv5) rfl rfl (by kernel_rfl) (by kernel_rfl) (by kernel_rfl) (fun _ _ _ h => h) (by rfl) ?ry5 (by assumption) ?rr5
        case ry5 => (intro wz hSw; (try dsimp only at hSw); go_simp; try with_reducible rfl)
        (try simp only [Act.put, List.setIfInBounds_toArray, List.set_cons_zero, List.set_cons_succ])
        refine wpAnyH_ready (rs := [1, 6]) (by kernel_rfl) (by simp) ?_
        refine AllReadyH.cons rfl (fun K hK => ?_) (AllReadyH.cons rfl (fun K hK => ?_) (AllReadyH.nil))
        ·
          go_simp
          refine hK.out _ _ ?_ (fun hHeld => ?_)
          · ((try dsimp only); (repeat' apply And.intro); all_goals ((repeat (first | (with_reducible refine cell_drew ?_) | (with_reducible refine cell_drewN _ ?_) | ((with_reducible refine cell_alloc ?_ ?_); · first | omega | (simp; done) | (simp; omega) | assumption) | ((with_reducible refine cell_set ?_ ?_); · first | (intro e; injection e; omega) | (intro e; simp at e; done) | (intro e; simp at e; omega)))); first | assumption | (simp; done)))
          clear hK K
          (try simp only [Act.put, List.setIfInBounds_toArray, List.set_cons_zero, List.set_cons_succ])
          refine wpAnyH_ready (rs := [6]) (by kernel_rfl) (by simp) ?_
          refine AllReadyH.cons rfl (fun K hK => ?_) (AllReadyH.nil)
          go_simp
          go_at_call 87; refine (HMC.out _ (HRR.out.later (B := wr.heap.size) (Below.refl _ _).drew (Nat.le_refl _)) (HTT.out.later (B := wr.heap.size) (Below.refl _ _).drew (Nat.le_refl _))).mono ?_; rintro e w4 ⟨rfl, hb4⟩; replace hb4 := (Below.refl wr.heap.size wr).drew.trans hb4; have s4 := hb4.size; have m4 : w4.cell? ⟨w1.heap.size, 0, none⟩ = some (.slice A' k c') := (hb4.cell (p := ⟨w1.heap.size, 0, none⟩) (by show w1.heap.size < wr.heap.size; omega)).trans hmc; have g4 : w4.frozen? ⟨w1.heap.size, 0, none⟩ = false := (hb4.frozen (p := ⟨w1.heap.size, 0, none⟩) (by show w1.heap.size < wr.heap.size; omega)).trans hmf; have own4 := own_later HOW.out hb4 (Nat.le_refl _); have ht4 := HTT.out.later hb4 (Nat.le_refl _); have z4 : w1.heap.size < w4.heap.size := (by omega); have hB4 := HBB.out.trans (hb4.mono sB)
          refine hK.out _ _ ?_ (fun hHeld => ?_)
          · ((try dsimp only); (repeat' apply And.intro); all_goals ((repeat (first | (with_reducible refine cell_drew ?_) | (with_reducible refine cell_drewN _ ?_) | ((with_reducible refine cell_alloc ?_ ?_); · first | omega | (simp; done) | (simp; omega) | assumption) | ((with_reducible refine cell_set ?_ ?_); · first | (intro e; injection e; omega) | (intro e; simp at e; done) | (intro e; simp at e; omega)))); first | assumption | (simp; done)))
          clear hK K
          (try simp only [Act.put, List.setIfInBounds_toArray, List.set_cons_zero, List.set_cons_succ])
          refine wpAnyH_ready (rs := [7]) (by kernel_rfl) (by simp) ?_
          refine AllReadyH.cons rfl (fun K hK => ?_) (AllReadyH.nil)
          go_simp
          refine hK.out _ _ ?_ (fun hHeld => ?_)
          · ((try dsimp only); (repeat' apply And.intro); all_goals ((repeat (first | (with_reducible refine cell_drew ?_) | (with_reducible refine cell_drewN _ ?_) | ((with_reducible refine cell_alloc ?_ ?_); · first | omega | (simp; done) | (simp; omega) | assumption) | ((with_reducible refine cell_set ?_ ?_); · first | (intro e; injection e; omega) | (intro e; simp at e; done) | (intro e; simp at e; omega)))); first | assumption | (simp; done)))
          clear hK K
          (try simp only [Act.put, List.setIfInBounds_toArray, List.set_cons_zero, List.set_cons_succ])
          refine wpAnyH_ready (rs := [8]) (by kernel_rfl) (by simp) ?_
          refine AllReadyH.cons rfl (fun K hK => ?_) AllReadyH.nil
          refine step_append_own rfl (.tmp 40) (.tmp 46) 33 rfl w2.heap.size 25 i0 (bx3 0 0 0) 3 24 Try.underlying33 hi hz0 hi1 hi2 rfl (by decide) _ _ _ rfl (own_alloc own4 (.cells #[.int .i64 kd, .int .i64 av, .int .i64 tv] 25)) ⟨w4.heap.size, 0, none⟩ 1 1 (boxCells [(kd, av, tv)]) rfl rfl (new3 w4 25 kd av tv) (by intro u hu; simp [boxCells] at hu; rcases hu with rfl | rfl | rfl <;> rfl) hc3 hc4 (by simp; omega) ?_; intro v' w5 hown' hgrow _; obtain ⟨A5, c5, rfl⟩ := own_slice hown'; have hrow : ∀ q, (Value.slice A' k c').ownBlock = some q → w2.heap.size ≤ q := fun q hq => (HOW.out.lt q hq).1; have hg5 := gb_trans (World.grownBy_alloc w4 (.cells #[.int .i64 kd, .int .i64 av, .int .i64 tv] 25) (Value.slice A' k c').ownBlock) hgrow; have s5 := hg5.size; have m5 : w5.cell? ⟨w1.heap.size, 0, none⟩ = some (.slice A' k c') := (World.cell?_of_block (hg5.block w1.heap.size (by omega) (fun e => by have := hrow _ e.symm; omega))).trans m4; have g5 : w5.frozen? ⟨w1.heap.size, 0, none⟩ = false := (World.frozen?_of_block (a := ⟨w1.heap.size, 0, none⟩) (hg5.block w1.heap.size (by omega) (fun e => by have := hrow _ e.symm; omega))).trans g4; have ht5 : TabAt w5 g := ht4.grownO hg5 (fun e => by have := hrow _ e.symm; have := HT2.out.lt; omega)
          refine hK.out _ _ ?_ (fun hHeld => ?_)
          · ((try dsimp only); (repeat' apply And.intro); all_goals ((repeat (first | (with_reducible refine cell_drew ?_) | (with_reducible refine cell_drewN _ ?_) | ((with_reducible refine cell_alloc ?_ ?_); · first | omega | (simp; done) | (simp; omega) | assumption) | ((with_reducible refine cell_set ?_ ?_); · first | (intro e; injection e; omega) | (intro e; simp at e; done) | (intro e; simp at e; omega)))); first | assumption | (simp; done)))
          clear hK K
          (try simp only [Act.put, List.setIfInBounds_toArray, List.set_cons_zero, List.set_cons_succ])
          refine reg_on (i := 9) (d := 48) (v := ?rv7) rfl rfl (by kernel_rfl) (by kernel_rfl) (by kernel_rfl) (fun _ _ _ h => h) (by rfl) ?ry7 (by assumption) ?rr7
          case ry7 => (intro wz hSw; (try dsimp only at hSw); go_simp; try with_reducible rfl)
          (try simp only [Act.put, List.setIfInBounds_toArray, List.set_cons_zero, List.set_cons_succ])
          refine wpAnyH_ready (rs := [10]) (by kernel_rfl) (by simp) ?_
          refine AllReadyH.cons rfl (fun K hK => ?_) AllReadyH.nil
          go_simp
          refine hK.out _ _ ?_ (fun hHeld => ?_)
          · ((try dsimp only); (repeat' apply And.intro); all_goals ((repeat (first | (with_reducible refine cell_drew ?_) | (with_reducible refine cell_drewN _ ?_) | ((with_reducible refine cell_alloc ?_ ?_); · first | omega | (simp; done) | (simp; omega) | assumption) | ((with_reducible refine cell_set ?_ ?_); · first | (intro e; injection e; omega) | (intro e; simp at e; done) | (intro e; simp at e; omega)))); first | assumption | (simp; done)))
          clear hK K
          (try simp only [Act.put, List.setIfInBounds_toArray, List.set_cons_zero, List.set_cons_succ])
          refine wpAnyH_done (by kernel_rfl) ?_ _
          have hB5 : Below w1.heap.size w1 w5 := gb_new (Nat.le_refl _) hB4 hg5 (fun q hq => by have := hrow q hq; omega)
          have P := Lib.hid (show (w5.setCell ⟨w1.heap.size, 0, none⟩ (.slice A5 (k + 1) c5)).cell? ⟨w1.heap.size, 0, none⟩ = some (.slice A5 (k + 1) c5) ∧ (w5.setCell ⟨w1.heap.size, 0, none⟩ (.slice A5 (k + 1) c5)).frozen? ⟨w1.heap.size, 0, none⟩ = false ∧ (w5.setCell ⟨w1.heap.size, 0, none⟩ (.slice A5 (k + 1) c5)).ownsRow w2.heap.size 25 3 (.slice A5 (k + 1) c5) (k + 1) (boxCells (mdK l sd (k + 1))) ∧ TabAt (w5.setCell ⟨w1.heap.size, 0, none⟩ (.slice A5 (k + 1) c5)) g ∧ Below w1.heap.size w1 (w5.setCell ⟨w1.heap.size, 0, none⟩ (.slice A5 (k + 1) c5)) ∧ w2.heap.size ≤ (w5.setCell ⟨w1.heap.size, 0, none⟩ (.slice A5 (k + 1) c5)).heap.size from ⟨World.cell?_setCell_same _ _ _ m5, by simpa [go_sem] using g5, own_setO (by rw [HMD.out, boxCells_append]; exact hown') _ (fun e => by have := (hown'.lt _ e).1; omega), ht5.setO _ (by omega), bset (p := ⟨w1.heap.size, 0, none⟩) (Nat.le_refl _) _ hB5, by simp; omega⟩)
          clear m4 g4 own4 ht4 ht5 hB4 hB5 hown' hgrow hrow hg5 m5 g5 hb4
          go_wp2
          go_roundw
          case rel => exact ⟨k + 1, A5, c5, by omega, by go_num, by rw [HZK.out], P.out⟩
          case measure => simp [intOf]; omega
        ·
          go_simp
          go_at_call 87; refine (HMC.out _ (HRR.out.later (B := wr.heap.size) (Below.refl _ _).drew (Nat.le_refl _)) (HTT.out.later (B := wr.heap.size) (Below.refl _ _).drew (Nat.le_refl _))).mono ?_; rintro e w4 ⟨rfl, hb4⟩; replace hb4 := (Below.refl wr.heap.size wr).drew.trans hb4; have s4 := hb4.size; have m4 : w4.cell? ⟨w1.heap.size, 0, none⟩ = some (.slice A' k c') := (hb4.cell (p := ⟨w1.heap.size, 0, none⟩) (by show w1.heap.size < wr.heap.size; omega)).trans hmc; have g4 : w4.frozen? ⟨w1.heap.size, 0, none⟩ = false := (hb4.frozen (p := ⟨w1.heap.size, 0, none⟩) (by show w1.heap.size < wr.heap.size; omega)).trans hmf; have own4 := own_later HOW.out hb4 (Nat.le_refl _); have ht4 := HTT.out.later hb4 (Nat.le_refl _); have z4 : w1.heap.size < w4.heap.size := (by omega); have hB4 := HBB.out.trans (hb4.mono sB)
          refine hK.out _ _ ?_ (fun hHeld => ?_)
          · ((try dsimp only); (repeat' apply And.intro); all_goals ((repeat (first | (with_reducible refine cell_drew ?_) | (with_reducible refine cell_drewN _ ?_) | ((with_reducible refine cell_alloc ?_ ?_); · first | omega | (simp; done) | (simp; omega) | assumption) | ((with_reducible refine cell_set ?_ ?_); · first | (intro e; injection e; omega) | (intro e; simp at e; done) | (intro e; simp at e; omega)))); first | assumption | (simp; done)))
          clear hK K
          (try simp only [Act.put, List.setIfInBounds_toArray, List.set_cons_zero, List.set_cons_succ])
          refine wpAnyH_ready (rs := [1, 7]) (by kernel_rfl) (by simp) ?_
          refine AllReadyH.cons rfl (fun K hK => ?_) (AllReadyH.cons rfl (fun K hK => ?_) (AllReadyH.nil))
          ·
            go_simp
            refine hK.out _ _ ?_ (fun hHeld => ?_)
            · ((try dsimp only); (repeat' apply And.intro); all_goals ((repeat (first | (with_reducible refine cell_drew ?_) | (with_reducible refine cell_drewN _ ?_) | ((with_reducible refine cell_alloc ?_ ?_); · first | omega | (simp; done) | (simp; omega) | assumption) | ((with_reducible refine cell_set ?_ ?_); · first | (intro e; injection e; omega) | (intro e; simp at e; done) | (intro e; simp at e; omega)))); first | assumption | (simp; done)))
            clear hK K
            (try simp only [Act.put, List.setIfInBounds_toArray, List.set_cons_zero, List.set_cons_succ])
            refine wpAnyH_ready (rs := [7]) (by kernel_rfl) (by simp) ?_
            refine AllReadyH.cons rfl (fun K hK => ?_) (AllReadyH.nil)
            go_simp
            refine hK.out _ _ ?_ (fun hHeld => ?_)
            · ((try dsimp only); (repeat' apply And.intro); all_goals ((repeat (first | (with_reducible refine cell_drew ?_) | (with_reducible refine cell_drewN _ ?_) | ((with_reducible refine cell_alloc ?_ ?_); · first | omega | (simp; done) | (simp; omega) | assumption) | ((with_reducible refine cell_set ?_ ?_); · first | (intro e; injection e; omega) | (intro e; simp at e; done) | (intro e; simp at e; omega)))); first | assumption | (simp; done)))
            clear hK K
            (try simp only [Act.put, List.setIfInBounds_toArray, List.set_cons_zero, List.set_cons_succ])
            refine wpAnyH_ready (rs := [8]) (by kernel_rfl) (by simp) ?_
            refine AllReadyH.cons rfl (fun K hK => ?_) AllReadyH.nil
            refine step_append_own rfl (.tmp 40) (.tmp 46) 33 rfl w2.heap.size 25 i0 (bx3 0 0 0) 3 24 Try.underlying33 hi hz0 hi1 hi2 rfl (by decide) _ _ _ rfl (own_alloc own4 (.cells #[.int .i64 kd, .int .i64 av, .int .i64 tv] 25)) ⟨w4.heap.size, 0, none⟩ 1 1 (boxCells [(kd, av, tv)]) rfl rfl (new3 w4 25 kd av tv) (by intro u hu; simp [boxCells] at hu; rcases hu with rfl | rfl | rfl <;> rfl) hc3 hc4 (by simp; omega) ?_; intro v' w5 hown' hgrow _; obtain ⟨A5, c5, rfl⟩ := own_slice hown'; have hrow : ∀ q, (Value.slice A' k c').ownBlock = some q → w2.heap.size ≤ q := fun q hq => (HOW.out.lt q hq).1; have hg5 := gb_trans (World.grownBy_alloc w4 (.cells #[.int .i64 kd, .int .i64 av, .int .i64 tv] 25) (Value.slice A' k c').ownBlock) hgrow; have s5 := hg5.size; have m5 : w5.cell? ⟨w1.heap.size, 0, none⟩ = some (.slice A' k c') := (World.cell?_of_block (hg5.block w1.heap.size (by omega) (fun e => by have := hrow _ e.symm; omega))).trans m4; have g5 : w5.frozen? ⟨w1.heap.size, 0, none⟩ = false := (World.frozen?_of_block (a := ⟨w1.heap.size, 0, none⟩) (hg5.block w1.heap.size (by omega) (fun e => by have := hrow _ e.symm; omega))).trans g4; have ht5 : TabAt w5 g := ht4.grownO hg5 (fun e => by have := hrow _ e.symm; have := HT2.out.lt; omega)
            refine hK.out _ _ ?_ (fun hHeld => ?_)
            · ((try dsimp only); (repeat' apply And.intro); all_goals ((repeat (first | (with_reducible refine cell_drew ?_) | (with_reducible refine cell_drewN _ ?_) | ((with_reducible refine cell_alloc ?_ ?_); · first | omega | (simp; done) | (simp; omega) | assumption) | ((with_reducible refine cell_set ?_ ?_); · first | (intro e; injection e; omega) | (intro e; simp at e; done) | (intro e; simp at e; omega)))); first | assumption | (simp; done)))
            clear hK K
            (try simp only [Act.put, List.setIfInBounds_toArray, List.set_cons_zero, List.set_cons_succ])
            refine reg_on (i := 9) (d := 48) (v := ?rv10) rfl rfl (by kernel_rfl) (by kernel_rfl) (by kernel_rfl) (fun _ _ _ h => h) (by rfl) ?ry10 (by assumption) ?rr10
            case ry10 => (intro wz hSw; (try dsimp only at hSw); go_simp; try with_reducible rfl)
            (try simp only [Act.put, List.setIfInBounds_toArray, List.set_cons_zero, List.set_cons_succ])
            refine wpAnyH_ready (rs := [10]) (by kernel_rfl) (by simp) ?_
            refine AllReadyH.cons rfl (fun K hK => ?_) AllReadyH.nil
            go_simp
            refine hK.out _ _ ?_ (fun hHeld => ?_)
            · ((try dsimp only); (repeat' apply And.intro); all_goals ((repeat (first | (with_reducible refine cell_drew ?_) | (with_reducible refine cell_drewN _ ?_) | ((with_reducible refine cell_alloc ?_ ?_); · first | omega | (simp; done) | (simp; omega) | assumption) | ((with_reducible refine cell_set ?_ ?_); · first | (intro e; injection e; omega) | (intro e; simp at e; done) | (intro e; simp at e; omega)))); first | assumption | (simp; done)))
            clear hK K
            (try simp only [Act.put, List.setIfInBounds_toArray, List.set_cons_zero, List.set_cons_succ])
            refine wpAnyH_done (by kernel_rfl) ?_ _
            have hB5 : Below w1.heap.size w1 w5 := gb_new (Nat.le_refl _) hB4 hg5 (fun q hq => by have := hrow q hq; omega)
            have P := Lib.hid (show (w5.setCell ⟨w1.heap.size, 0, none⟩ (.slice A5 (k + 1) c5)).cell? ⟨w1.heap.size, 0, none⟩ = some (.slice A5 (k + 1) c5) ∧ (w5.setCell ⟨w1.heap.size, 0, none⟩ (.slice A5 (k + 1) c5)).frozen? ⟨w1.heap.size, 0, none⟩ = false ∧ (w5.setCell ⟨w1.heap.size, 0, none⟩ (.slice A5 (k + 1) c5)).ownsRow w2.heap.size 25 3 (.slice A5 (k + 1) c5) (k + 1) (boxCells (mdK l sd (k + 1))) ∧ TabAt (w5.setCell ⟨w1.heap.size, 0, none⟩ (.slice A5 (k + 1) c5)) g ∧ Below w1.heap.size w1 (w5.setCell ⟨w1.heap.size, 0, none⟩ (.slice A5 (k + 1) c5)) ∧ w2.heap.size ≤ (w5.setCell ⟨w1.heap.size, 0, none⟩ (.slice A5 (k + 1) c5)).heap.size from ⟨World.cell?_setCell_same _ _ _ m5, by simpa [go_sem] using g5, own_setO (by rw [HMD.out, boxCells_append]; exact hown') _ (fun e => by have := (hown'.lt _ e).1; omega), ht5.setO _ (by omega), bset (p := ⟨w1.heap.size, 0, none⟩) (Nat.le_refl _) _ hB5, by simp; omega⟩)
            clear m4 g4 own4 ht4 ht5 hB4 hB5 hown' hgrow hrow hg5 m5 g5 hb4
            go_wp2
            go_roundw
            case rel => exact ⟨k + 1, A5, c5, by omega, by go_num, by rw [HZK.out], P.out⟩
            case measure => simp [intOf]; omega
          ·
            go_simp
            refine hK.out _ _ ?_ (fun hHeld => ?_)
            · ((try dsimp only); (repeat' apply And.intro); all_goals ((repeat (first | (with_reducible refine cell_drew ?_) | (with_reducible refine cell_drewN _ ?_) | ((with_reducible refine cell_alloc ?_ ?_); · first | omega | (simp; done) | (simp; omega) | assumption) | ((with_reducible refine cell_set ?_ ?_); · first | (intro e; injection e; omega) | (intro e; simp at e; done) | (intro e; simp at e; omega)))); first | assumption | (simp; done)))
            clear hK K
            (try simp only [Act.put, List.setIfInBounds_toArray, List.set_cons_zero, List.set_cons_succ])
            refine wpAnyH_ready (rs := [1]) (by kernel_rfl) (by simp) ?_
            refine AllReadyH.cons rfl (fun K hK => ?_) (AllReadyH.nil)
            go_simp
            refine hK.out _ _ ?_ (fun hHeld => ?_)
            · ((try dsimp only); (repeat' apply And.intro); all_goals ((repeat (first | (with_reducible refine cell_drew ?_) | (with_reducible refine cell_drewN _ ?_) | ((with_reducible refine cell_alloc ?_ ?_); · first | omega | (simp; done) | (simp; omega) | assumption) | ((with_reducible refine cell_set ?_ ?_); · first | (intro e; injection e; omega) | (intro e; simp at e; done) | (intro e; simp at e; omega)))); first | assumption | (simp; done)))
            clear hK K
            (try simp only [Act.put, List.setIfInBounds_toArray, List.set_cons_zero, List.set_cons_succ])
            refine wpAnyH_ready (rs := [8]) (by kernel_rfl) (by simp) ?_
            refine AllReadyH.cons rfl (fun K hK => ?_) AllReadyH.nil
            refine step_append_own rfl (.tmp 40) (.tmp 46) 33 rfl w2.heap.size 25 i0 (bx3 0 0 0) 3 24 Try.underlying33 hi hz0 hi1 hi2 rfl (by decide) _ _ _ rfl (own_alloc own4 (.cells #[.int .i64 kd, .int .i64 av, .int .i64 tv] 25)) ⟨w4.heap.size, 0, none⟩ 1 1 (boxCells [(kd, av, tv)]) rfl rfl (new3 w4 25 kd av tv) (by intro u hu; simp [boxCells] at hu; rcases hu with rfl | rfl | rfl <;> rfl) hc3 hc4 (by simp; omega) ?_; intro v' w5 hown' hgrow _; obtain ⟨A5, c5, rfl⟩ := own_slice hown'; have hrow : ∀ q, (Value.slice A' k c').ownBlock = some q → w2.heap.size ≤ q := fun q hq => (HOW.out.lt q hq).1; have hg5 := gb_trans (World.grownBy_alloc w4 (.cells #[.int .i64 kd, .int .i64 av, .int .i64 tv] 25) (Value.slice A' k c').ownBlock) hgrow; have s5 := hg5.size; have m5 : w5.cell? ⟨w1.heap.size, 0, none⟩ = some (.slice A' k c') := (World.cell?_of_block (hg5.block w1.heap.size (by omega) (fun e => by have := hrow _ e.symm; omega))).trans m4; have g5 : w5.frozen? ⟨w1.heap.size, 0, none⟩ = false := (World.frozen?_of_block (a := ⟨w1.heap.size, 0, none⟩) (hg5.block w1.heap.size (by omega) (fun e => by have := hrow _ e.symm; omega))).trans g4; have ht5 : TabAt w5 g := ht4.grownO hg5 (fun e => by have := hrow _ e.symm; have := HT2.out.lt; omega)
            refine hK.out _ _ ?_ (fun hHeld => ?_)
            · ((try dsimp only); (repeat' apply And.intro); all_goals ((repeat (first | (with_reducible refine cell_drew ?_) | (with_reducible refine cell_drewN _ ?_) | ((with_reducible refine cell_alloc ?_ ?_); · first | omega | (simp; done) | (simp; omega) | assumption) | ((with_reducible refine cell_set ?_ ?_); · first | (intro e; injection e; omega) | (intro e; simp at e; done) | (intro e; simp at e; omega)))); first | assumption | (simp; done)))
            clear hK K
            (try simp only [Act.put, List.setIfInBounds_toArray, List.set_cons_zero, List.set_cons_succ])
            refine reg_on (i := 9) (d := 48) (v := ?rv13) rfl rfl (by kernel_rfl) (by kernel_rfl) (by kernel_rfl) (fun _ _ _ h => h) (by rfl) ?ry13 (by assumption) ?rr13
            case ry13 => (intro wz hSw; (try dsimp only at hSw); go_simp; try with_reducible rfl)
            (try simp only [Act.put, List.setIfInBounds_toArray, List.set_cons_zero, List.set_cons_succ])
            refine wpAnyH_ready (rs := [10]) (by kernel_rfl) (by simp) ?_
            refine AllReadyH.cons rfl (fun K hK => ?_) AllReadyH.nil
            go_simp
            refine hK.out _ _ ?_ (fun hHeld => ?_)
            · ((try dsimp only); (repeat' apply And.intro); all_goals ((repeat (first | (with_reducible refine cell_drew ?_) | (with_reducible refine cell_drewN _ ?_) | ((with_reducible refine cell_alloc ?_ ?_); · first | omega | (simp; done) | (simp; omega) | assumption) | ((with_reducible refine cell_set ?_ ?_); · first | (intro e; injection e; omega) | (intro e; simp at e; done) | (intro e; simp at e; omega)))); first | assumption | (simp; done)))
            clear hK K
            (try simp only [Act.put, List.setIfInBounds_toArray, List.set_cons_zero, List.set_cons_succ])
            refine wpAnyH_done (by kernel_rfl) ?_ _
            have hB5 : Below w1.heap.size w1 w5 := gb_new (Nat.le_refl _) hB4 hg5 (fun q hq => by have := hrow q hq; omega)
            have P := Lib.hid (show (w5.setCell ⟨w1.heap.size, 0, none⟩ (.slice A5 (k + 1) c5)).cell? ⟨w1.heap.size, 0, none⟩ = some (.slice A5 (k + 1) c5) ∧ (w5.setCell ⟨w1.heap.size, 0, none⟩ (.slice A5 (k + 1) c5)).frozen? ⟨w1.heap.size, 0, none⟩ = false ∧ (w5.setCell ⟨w1.heap.size, 0, none⟩ (.slice A5 (k + 1) c5)).ownsRow w2.heap.size 25 3 (.slice A5 (k + 1) c5) (k + 1) (boxCells (mdK l sd (k + 1))) ∧ TabAt (w5.setCell ⟨w1.heap.size, 0, none⟩ (.slice A5 (k + 1) c5)) g ∧ Below w1.heap.size w1 (w5.setCell ⟨w1.heap.size, 0, none⟩ (.slice A5 (k + 1) c5)) ∧ w2.heap.size ≤ (w5.setCell ⟨w1.heap.size, 0, none⟩ (.slice A5 (k + 1) c5)).heap.size from ⟨World.cell?_setCell_same _ _ _ m5, by simpa [go_sem] using g5, own_setO (by rw [HMD.out, boxCells_append]; exact hown') _ (fun e => by have := (hown'.lt _ e).1; omega), ht5.setO _ (by omega), bset (p := ⟨w1.heap.size, 0, none⟩) (Nat.le_refl _) _ hB5, by simp; omega⟩)
            clear m4 g4 own4 ht4 ht5 hB4 hB5 hown' hgrow hrow hg5 m5 g5 hb4
            go_wp2
            go_roundw
            case rel => exact ⟨k + 1, A5, c5, by omega, by go_num, by rw [HZK.out], P.out⟩
            case measure => simp [intOf]; omega
      · have hk1 : k = cn := by omega
        subst hk1
        have hgt : decide ((0 : Int) < (k : Int) - k) = false := decide_eq_false (by omega)
        have dr : wr.cell? ⟨w.heap.size, 0, none⟩ = some (.slice none 0 0) := (hB.cell (p := ⟨w.heap.size, 0, none⟩) (by show w.heap.size < w1.heap.size; omega)).trans HD0.out
        have fr : wr.frozen? ⟨w.heap.size, 0, none⟩ = false := (hB.frozen (p := ⟨w.heap.size, 0, none⟩) (by show w.heap.size < w1.heap.size; omega)).trans HF0.out
        have HO := Lib.hid (own_setO (b := w.heap.size) (o := 0) hown (.slice A' k c') (fun e => by have := (hown.lt _ e).1; omega))
        have HOB := Lib.hid (own_base HO.out (show w.heap.size ≤ w2.heap.size by omega))
        have HBF := Lib.hid (HBW.out.trans (hB.mono HBW.out.size))
        clear hown htab hB
        go_wp2
        refine bodyPost_ret (v := .tuple #[puzV A' k c', .bool true]) (by simp [results, Try.results59, go_sem, dr]) rfl ⟨A', k, c', rfl, by rw [HLR.out]; exact HOB.out, ?_⟩
        exact bset (p := ⟨w.heap.size, 0, none⟩) (Nat.le_refl _) _ HBF.out
end Go.Proofs.Ytghlgmbekgfmnaa
