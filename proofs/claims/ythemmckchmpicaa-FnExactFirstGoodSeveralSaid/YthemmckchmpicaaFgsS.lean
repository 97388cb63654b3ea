/-
  Contract: FirstGoodSeveral of the model. Conditions: none.
-/
import Derived.Test.YthemmckchmpicaaFgs
namespace Go.Proofs.Ythemmckchmpicaa
open Go.RowKit
set_option linter.unusedVariables false
set_option linter.unusedSimpArgs false

theorem filter_first {f : Int × Int → Bool} {l : List (Int × Int)} {k : Nat} (h : k < l.length) (h0 : (l.take k).filter f = []) (hf : f l[k] = true) : l.filter f = l[k] :: (l.drop (k + 1)).filter f := by
  have e : l = l.take k ++ (l[k] :: l.drop (k + 1)) := by rw [← List.drop_eq_getElem_cons h, List.take_append_drop]
  conv => lhs; rw [e]
  rw [List.filter_append, h0, List.filter_cons, if_pos hf]; rfl

set_option maxRecDepth 100000 in
set_option maxHeartbeats 4000000 in
theorem sFirstGoodSeveral_any (A : Option Addr) (n c : Nat) (l : List (Int × Int)) (w : World) (hr : Rd w 2 A n (pairCells l)) (hn : n ≤ 4000000000) :
    Calls Try.prog 30 #[.slice A n c] w fun e w' => e = .returned (fgV (fgR l)) ∧ Below w.heap.size w w' := by
  have bw0 : Below w.heap.size w (w.alloc (.cells #[.int .i64 0, .int .i64 0] 26)) := by (repeat (first | (with_reducible exact Below.refl _ _) | (with_reducible assumption) | (with_reducible refine Below.drew ?_) | ((with_reducible refine balloc ?_ _ ?_); · (first | (simp; done) | (simp; omega) | omega)) | ((with_reducible refine bset ?_ _ ?_); · (first | (simp; done) | (simp; omega) | omega)) | (with_reducible refine bdrewN _ ?_) | ((with_reducible refine bcall ?_ (by assumption) ?_); · (first | (simp; done) | (simp; omega) | omega))))
  have hr0 := hr.alloc (.cells #[.int .i64 0, .int .i64 0] 26)
  cases hS : sevB l
  · rw [fgR_no hS]
    go_enter Try.func30, Try.ntmps30
    go_wp2_with fail
    refine (laBars_any _ _ _ _ _ hr0 hn).mono ?_; rintro e w1 ⟨rfl, hb1⟩; have s1 := hb1.size; obtain ⟨hc1, hf1⟩ := bcell hb1; have z1_w0 : w.heap.size < w1.heap.size := (by have q := s1; first | omega | (simp at q; omega))
    go_wp2
    refine bodyPost_ret (v := fgV none) (by simp [results, Try.results30, go_sem, fgI, fgX, fgY, fgO, *]) rfl ⟨rfl, by (repeat (first | (with_reducible exact Below.refl _ _) | (with_reducible assumption) | (with_reducible refine Below.drew ?_) | ((with_reducible refine balloc ?_ _ ?_); · (first | (simp; done) | (simp; omega) | omega)) | ((with_reducible refine bset ?_ _ ?_); · (first | (simp; done) | (simp; omega) | omega)) | (with_reducible refine bdrewN _ ?_) | ((with_reducible refine bcall ?_ (by assumption) ?_); · (first | (simp; done) | (simp; omega) | omega))))⟩
  · rw [fgR_yes hS]
    have hl8 := sevB_len hS
    have hA := sevB_all hS
    have hll : l.length = n := by have := hr.1; rw [length_pairCells] at this; omega
    have HL := Lib.hid hll
    have HA := Lib.hid hA
    have hn8 : n ≤ 8 := by omega
    have hG := xorT_lt hA l.length (Nat.le_refl _)
    clear hl8 hA hll
    go_enter Try.func30, Try.ntmps30
    go_wp2_with fail
    refine (laBars_any _ _ _ _ _ hr0 hn).mono ?_; rintro e w1 ⟨rfl, hb1⟩; have s1 := hb1.size; obtain ⟨hc1, hf1⟩ := bcell hb1; have z1_w0 : w.heap.size < w1.heap.size := (by have q := s1; first | omega | (simp at q; omega))
    go_wp2_with fail
    refine (laSeveral_any _ _ _ _ _ (hr0.later hb1 (Nat.le_refl _)) hn HA.out).mono ?_; rintro e w2 ⟨rfl, hb2⟩; have s2 := hb2.size; obtain ⟨hc2, hf2⟩ := bcell hb2; have z2_w0 : w.heap.size < w2.heap.size := (by have q := s2; first | omega | (simp at q; omega))
    clear hS hc1 hf1 hc2 hf2
    have b12 : Below (w.heap.size + 1) (w.alloc (.cells #[.int .i64 0, .int .i64 0] 26)) w2 := by
      have h1 := hb1.trans (hb2.mono s1)
      rwa [show (w.alloc (.cells #[.int .i64 0, .int .i64 0] 26)).heap.size = w.heap.size + 1 by simp] at h1
    have HB12 := Lib.hid b12
    have HBW2 := Lib.hid (bw0.trans (b12.mono (by omega)))
    have hr2 := hr0.later b12 (by simp)
    have hs2 : w.heap.size + 1 ≤ w2.heap.size := by have := b12.size; simp at this; omega
    have e0 : w2.cell? ⟨w.heap.size, 0, none⟩ = some (.int .i64 0) := (b12.cell (p := ⟨w.heap.size, 0, none⟩) (by simp)).trans (by simp [go_sem])
    have e1 : w2.cell? ⟨w.heap.size, 1, none⟩ = some (.int .i64 0) := (b12.cell (p := ⟨w.heap.size, 1, none⟩) (by simp)).trans (by simp [go_sem])
    have f0 : w2.frozen? ⟨w.heap.size, 0, none⟩ = false := (b12.frozen (p := ⟨w.heap.size, 0, none⟩) (by simp)).trans (World.frozen?_alloc_new _ _ _ _)
    have f1 : w2.frozen? ⟨w.heap.size, 1, none⟩ = false := (b12.frozen (p := ⟨w.heap.size, 1, none⟩) (by simp)).trans (World.frozen?_alloc_new _ _ _ _)
    have E0 := Lib.hid e0
    have E1 := Lib.hid e1
    have F0 := Lib.hid f0
    have F1 := Lib.hid f1
    have hG : xorA l < 16 := hG
    generalize hxg : xorA l = G at *
    generalize hR : fgS G 0 l = R at *
    have HR := Lib.hid hR
    have z2 : w.heap.size < w2.heap.size := by omega
    have HXG := Lib.hid hxg
    clear b12 hb1 hb2 e0 e1 f0 f1 s1 s2 bw0 hr0 hr hxg hR
    go_wp2
    go_loopw [18] (fun i wr => ∃ k : Nat, k ≤ n ∧ i = .int .i64 k ∧ Hid (fgS G k (l.drop k) = R) ∧ Below w2.heap.size w2 wr) (fun i _ => n - (intOf i).toNat)
    case atStart => exact ⟨0, Nat.zero_le _, rfl, by simpa [Hid] using HR.out, Below.refl _ _⟩
    case round =>
      obtain ⟨k, hk, rfl, hE, hB⟩ := hrel
      have sB := hB.size
      have e0 := (hB.cell (p := ⟨w.heap.size, 0, none⟩) z2).trans E0.out
      have e1 := (hB.cell (p := ⟨w.heap.size, 1, none⟩) z2).trans E1.out
      have f0 := (hB.frozen (p := ⟨w.heap.size, 0, none⟩) z2).trans F0.out
      have f1 := (hB.frozen (p := ⟨w.heap.size, 1, none⟩) z2).trans F1.out
      have z3 : w.heap.size < wr.heap.size := by omega
      by_cases hlt : k < n
      · obtain ⟨b, o, rfl, hbl, hx, p1, p2⟩ := (hr2.later hB (Nat.le_refl _)).pair hlt
        have HBp := Lib.hid (allB_at HA.out hx)
        have HNone : Hid (goodAt G l[k] = [] → fgS G k (l.drop k) = fgS G (k + 1) (l.drop (k + 1))) := fun h => fgS_none G k hx h
        have HSome : Hid (∀ q r, goodAt G l[k] = q :: r → fgS G k (l.drop k) = some (k, q)) := fun q r h => fgS_some G k hx h
        have HGD : Hid (goodAt G l[k] = (kmL (l[k]).1 (l[k]).2).filter (lkF (G ^^^ hpN (l[k]).1 (l[k]).2))) := rfl
        generalize hgd : goodAt G l[k] = gd at *
        clear hgd
        generalize (l[k]).1 = x at *
        generalize (l[k]).2 = y at *
        have HB := Lib.hid hB
        clear hB
        go_wp2_with fail
        refine (laKept_any _ _ _ HBp.out).mono ?_; rintro e w3 ⟨A3, n3, c3, rfl, own3, hb3⟩
        have s3 := hb3.size
        have HB3 : Hid (Below w2.heap.size w2 w3) := Lib.hid ((HB.out.alloc (by omega) (.cells #[.int .i64 x, .int .i64 y] 26)).trans (hb3.mono (by simp; omega)))
        have v0 : w3.cell? ⟨wr.heap.size, 0, none⟩ = some (.int .i64 x) := (hb3.cell (p := ⟨wr.heap.size, 0, none⟩) (by simp)).trans (by simp [go_sem])
        have v1 : w3.cell? ⟨wr.heap.size, 1, none⟩ = some (.int .i64 y) := (hb3.cell (p := ⟨wr.heap.size, 1, none⟩) (by simp)).trans (by simp [go_sem])
        have V0 := Lib.hid v0
        have V1 := Lib.hid v1
        have HHX := hpN_lt HBp.out
        have X1 : bits .xor .i64 (G : Int) ((hpN x y : Nat) : Int) = ((G ^^^ hpN x y : Nat) : Int) := bx_i64 _ _ (by omega) (by omega)
        have hg16 := xor_lt16 hG HHX
        have hr3 := Rd.of_own own3
        have hML : (kmL x y).length = n3 := by have := own3.1; rw [length_pairCells] at this; omega
        have hn22 : n3 ≤ 22 := by have := length_kmL HBp.out; omega
        have HBS := Lib.hid (kmL_bars HBp.out)
        have HGE := HGD.out
        generalize hg2 : G ^^^ hpN x y = G2 at *
        generalize hM : kmL x y = M at *
        have HML := Lib.hid hML
        have HGE := Lib.hid HGE
        have HX1 := Lib.hid X1
        have hz3 : wr.heap.size < w3.heap.size := by simp at s3; omega
        clear hb3 e0 e1 f0 f1 p1 p2 s3 v0 v1 hML X1 hg2 hM own3 HHX
        obtain ⟨wo, hwo⟩ : ∃ wo, wo = wr := ⟨_, rfl⟩
        subst hwo
        go_wp2
        go_loopw [26] (fun i wq => ∃ j : Nat, j ≤ n3 ∧ i = .int .i64 j ∧ Hid ((M.take j).filter (lkF G2) = []) ∧ Below w3.heap.size w3 wq) (fun i _ => n3 - (intOf i).toNat)
        case atStart => exact ⟨0, Nat.zero_le _, rfl, by simp [Hid], Below.refl _ _⟩
        case round =>
          obtain ⟨j, hj, rfl, hF, hB⟩ := hrel
          have sB3 := hB.size
          by_cases hlt2 : j < n3
          · obtain ⟨b3, o3, rfl, hbl3, hx3, q0, q1⟩ := (hr3.later hB (Nat.le_refl _)).pair hlt2
            have HBq := Lib.hid (HBS.out _ (List.getElem_mem hx3))
            have HYes : Hid (lkF G2 M[j] = true → M.filter (lkF G2) = ((M[j]).1, (M[j]).2) :: (M.drop (j + 1)).filter (lkF G2)) := fun h => filter_first hx3 hF.out h
            have HZ : Hid (lkF G2 M[j] = false → (M.take (j + 1)).filter (lkF G2) = (M.take j).filter (lkF G2)) := fun h => filter_take_no hx3 h
            have hf : lkF G2 M[j] = decide (G2 ^^^ hpN (M[j]).1 (M[j]).2 = 0) := by simp [lkF]
            rw [hf] at HYes HZ
            have X2 : bits .xor .i64 (G2 : Int) ((hpN (M[j]).1 (M[j]).2 : Nat) : Int) = ((G2 ^^^ hpN (M[j]).1 (M[j]).2 : Nat) : Int) := by have := hpN_lt HBq.out; exact bx_i64 _ _ (by omega) (by omega)
            clear hf
            generalize (M[j]).1 = a at *
            generalize (M[j]).2 = b2 at *
            have k0 := (hB.cell (p := ⟨wo.heap.size, 0, none⟩) hz3).trans V0.out
            have k1 := (hB.cell (p := ⟨wo.heap.size, 1, none⟩) hz3).trans V1.out
            have HBr := Lib.hid hB
            have hzo : wo.heap.size < wr.heap.size := by omega
            have k2 : (wr.alloc (.cells #[.int .i64 a, .int .i64 b2] 26)).cell? ⟨wo.heap.size, 0, none⟩ = some (.int .i64 x) := by (repeat (first | (with_reducible refine cell_drew ?_) | (with_reducible refine cell_drewN _ ?_) | ((with_reducible refine cell_alloc ?_ ?_); · first | omega | (simp; done) | (simp; omega) | assumption) | ((with_reducible refine cell_set ?_ ?_); · first | (intro e; injection e; omega) | (intro e; simp at e; done) | (intro e; simp at e; omega)))); assumption
            have k3 : (wr.alloc (.cells #[.int .i64 a, .int .i64 b2] 26)).cell? ⟨wo.heap.size, 1, none⟩ = some (.int .i64 y) := by (repeat (first | (with_reducible refine cell_drew ?_) | (with_reducible refine cell_drewN _ ?_) | ((with_reducible refine cell_alloc ?_ ?_); · first | omega | (simp; done) | (simp; omega) | assumption) | ((with_reducible refine cell_set ?_ ?_); · first | (intro e; injection e; omega) | (intro e; simp at e; done) | (intro e; simp at e; omega)))); assumption
            have k4 : (wr.alloc (.cells #[.int .i64 a, .int .i64 b2] 26)).cell? ⟨wr.heap.size, 0, none⟩ = some (.int .i64 a) := by simp [go_sem]
            have k5 : (wr.alloc (.cells #[.int .i64 a, .int .i64 b2] 26)).cell? ⟨wr.heap.size, 1, none⟩ = some (.int .i64 b2) := by simp [go_sem]
            have X1 := HX1.out
            have hbl4 : b3 < wr.heap.size + 1 := by omega
            clear hB
            go_wp2
            refine wp_region_held_drew (S := (fun w' => w'.cell? ⟨wo.heap.size, 0, none⟩ = some (.int .i64 x) ∧ w'.cell? ⟨wo.heap.size, 1, none⟩ = some (.int .i64 y) ∧ w'.cell? ⟨wr.heap.size, 0, none⟩ = some (.int .i64 a) ∧ w'.cell? ⟨wr.heap.size, 1, none⟩ = some (.int .i64 b2))) (by kernel_rfl) ?_ (fun hHeld => ?_)
            · ((try dsimp only); (repeat' apply And.intro); all_goals ((repeat (first | (with_reducible refine cell_drew ?_) | (with_reducible refine cell_drewN _ ?_) | ((with_reducible refine cell_alloc ?_ ?_); · first | omega | (simp; done) | (simp; omega) | assumption) | ((with_reducible refine cell_set ?_ ?_); · first | (intro e; injection e; omega) | (intro e; simp at e; done) | (intro e; simp at e; omega)))); first | assumption | (simp; done)))
            refine reg_on (i := 0) (d := 30) (v := ?rv1) rfl rfl (by kernel_rfl) (by kernel_rfl) (by kernel_rfl) (fun _ _ _ h => h) (by rfl) ?ry1 (by assumption) ?rr1
            case ry1 => (intro wz hSw; (try dsimp only at hSw); go_simp; try with_reducible rfl)
            (try simp only [Act.put, List.setIfInBounds_toArray, List.set_cons_zero, List.set_cons_succ])
            refine reg_on (i := 1) (d := 31) (v := ?rv2) rfl rfl (by kernel_rfl) (by kernel_rfl) (by kernel_rfl) (fun _ _ _ h => h) (by rfl) ?ry2 (by assumption) ?rr2
            case ry2 => (intro wz hSw; (try dsimp only at hSw); go_simp; try with_reducible rfl)
            (try simp only [Act.put, List.setIfInBounds_toArray, List.set_cons_zero, List.set_cons_succ])
            refine reg_on (i := 4) (d := 34) (v := ?rv3) rfl rfl (by kernel_rfl) (by kernel_rfl) (by kernel_rfl) (fun _ _ _ h => h) (by rfl) ?ry3 (by assumption) ?rr3
            case ry3 => (intro wz hSw; (try dsimp only at hSw); go_simp; try with_reducible rfl)
            (try simp only [Act.put, List.setIfInBounds_toArray, List.set_cons_zero, List.set_cons_succ])
            refine wpAnyH_ready (rs := [2]) (by kernel_rfl) (by simp) ?_
            refine AllReadyH.cons rfl (fun K hK => ?_) AllReadyH.nil
            go_simp
            go_at_call 39; refine (laHeap_any _ _ _ HBp.out).mono ?_; rintro e w6 ⟨rfl, hb6⟩; have s6 := hb6.size; (try simp at s6); have d6_0 : w6.cell? ⟨wo.heap.size, 0, none⟩ = some (.int .i64 x) := (hb6.cell (p := ⟨wo.heap.size, 0, none⟩) (by first | (simp; done) | (simp; omega) | omega)).trans (by first | assumption | (go_split_ands; assumption)); have d6_1 : w6.cell? ⟨wo.heap.size, 1, none⟩ = some (.int .i64 y) := (hb6.cell (p := ⟨wo.heap.size, 1, none⟩) (by first | (simp; done) | (simp; omega) | omega)).trans (by first | assumption | (go_split_ands; assumption)); have d6_2 : w6.cell? ⟨wr.heap.size, 0, none⟩ = some (.int .i64 a) := (hb6.cell (p := ⟨wr.heap.size, 0, none⟩) (by first | (simp; done) | (simp; omega) | omega)).trans (by first | assumption | (go_split_ands; assumption)); have d6_3 : w6.cell? ⟨wr.heap.size, 1, none⟩ = some (.int .i64 b2) := (hb6.cell (p := ⟨wr.heap.size, 1, none⟩) (by first | (simp; done) | (simp; omega) | omega)).trans (by first | assumption | (go_split_ands; assumption))
            refine hK.out _ _ ?_ (fun hHeld => ?_)
            · ((try dsimp only); (repeat' apply And.intro); all_goals ((repeat (first | (with_reducible refine cell_drew ?_) | (with_reducible refine cell_drewN _ ?_) | ((with_reducible refine cell_alloc ?_ ?_); · first | omega | (simp; done) | (simp; omega) | assumption) | ((with_reducible refine cell_set ?_ ?_); · first | (intro e; injection e; omega) | (intro e; simp at e; done) | (intro e; simp at e; omega)))); first | assumption | (simp; done)))
            clear hK K
            (try simp only [Act.put, List.setIfInBounds_toArray, List.set_cons_zero, List.set_cons_succ])
            refine reg_on (i := 3) (d := 33) (v := ?rv5) rfl rfl (by kernel_rfl) (by kernel_rfl) (by kernel_rfl) (fun _ _ _ h => h) (by rfl) ?ry5 (by assumption) ?rr5
            case ry5 => (intro wz hSw; (try dsimp only at hSw); go_simp; try with_reducible rfl)
            (try simp only [Act.put, List.setIfInBounds_toArray, List.set_cons_zero, List.set_cons_succ])
            refine wpAnyH_ready (rs := [5]) (by kernel_rfl) (by simp) ?_
            refine AllReadyH.cons rfl (fun K hK => ?_) AllReadyH.nil
            go_simp
            go_at_call 39; refine (laHeap_any _ _ _ HBq.out).mono ?_; rintro e w7 ⟨rfl, hb7⟩; have s7 := hb7.size; (try simp at s7); have d7_0 : w7.cell? ⟨wo.heap.size, 0, none⟩ = some (.int .i64 x) := (hb7.cell (p := ⟨wo.heap.size, 0, none⟩) (by first | (simp; done) | (simp; omega) | omega)).trans (by first | assumption | (go_split_ands; assumption)); have d7_1 : w7.cell? ⟨wo.heap.size, 1, none⟩ = some (.int .i64 y) := (hb7.cell (p := ⟨wo.heap.size, 1, none⟩) (by first | (simp; done) | (simp; omega) | omega)).trans (by first | assumption | (go_split_ands; assumption)); have d7_2 : w7.cell? ⟨wr.heap.size, 0, none⟩ = some (.int .i64 a) := (hb7.cell (p := ⟨wr.heap.size, 0, none⟩) (by first | (simp; done) | (simp; omega) | omega)).trans (by first | assumption | (go_split_ands; assumption)); have d7_3 : w7.cell? ⟨wr.heap.size, 1, none⟩ = some (.int .i64 b2) := (hb7.cell (p := ⟨wr.heap.size, 1, none⟩) (by first | (simp; done) | (simp; omega) | omega)).trans (by first | assumption | (go_split_ands; assumption))
            refine hK.out _ _ ?_ (fun hHeld => ?_)
            · ((try dsimp only); (repeat' apply And.intro); all_goals ((repeat (first | (with_reducible refine cell_drew ?_) | (with_reducible refine cell_drewN _ ?_) | ((with_reducible refine cell_alloc ?_ ?_); · first | omega | (simp; done) | (simp; omega) | assumption) | ((with_reducible refine cell_set ?_ ?_); · first | (intro e; injection e; omega) | (intro e; simp at e; done) | (intro e; simp at e; omega)))); first | assumption | (simp; done)))
            clear hK K
            (try simp only [Act.put, List.setIfInBounds_toArray, List.set_cons_zero, List.set_cons_succ])
            refine reg_on (i := 6) (d := 36) (v := ?rv7) rfl rfl (by kernel_rfl) (by kernel_rfl) (by kernel_rfl) (fun _ _ _ h => h) (by rfl) ?ry7 (by assumption) ?rr7
            case ry7 => (intro wz hSw; (try dsimp only at hSw); go_simp; try with_reducible rfl)
            (try simp only [Act.put, List.setIfInBounds_toArray, List.set_cons_zero, List.set_cons_succ])
            refine reg_on (i := 7) (d := 37) (v := ?rv8) rfl rfl (by kernel_rfl) (by kernel_rfl) (by kernel_rfl) (fun _ _ _ h => h) (by rfl) ?ry8 (by assumption) ?rr8
            case ry8 => (intro wz hSw; (try dsimp only at hSw); go_simp; try with_reducible rfl)
            (try simp only [Act.put, List.setIfInBounds_toArray, List.set_cons_zero, List.set_cons_succ])
            refine wpAnyH_done (by kernel_rfl) ?_ _
            have hB3 := Below.trans (Below.trans (HBr.out.alloc (by omega) (.cells #[.int .i64 a, .int .i64 b2] 26)).drew (hb6.mono (by simp; omega))) (hb7.mono (by omega))
            have HB37 := Lib.hid hB3
            have HB27 := Lib.hid (HB3.out.trans (hB3.mono (by have := HB3.out.size; omega)))
            have e0 := (HB27.out.cell (p := ⟨w.heap.size, 0, none⟩) z2).trans E0.out
            have e1 := (HB27.out.cell (p := ⟨w.heap.size, 1, none⟩) z2).trans E1.out
            have f0 := (HB27.out.frozen (p := ⟨w.heap.size, 0, none⟩) z2).trans F0.out
            have f1 := (HB27.out.frozen (p := ⟨w.heap.size, 1, none⟩) z2).trans F1.out
            have hz7 : w.heap.size < w7.heap.size := by have := HB27.out.size; omega
            have hne : wr.heap.size ≠ w.heap.size := by omega
            clear X1 X2 d6_0 d6_1 d6_2 d6_3 d7_0 d7_1 k0 k1 k2 k3 k4 k5 q0 q1 hb6 hb7 hB3 s6 s7
            by_cases h0 : G2 ^^^ hpN a b2 = 0
            · have t0 : (((G2 ^^^ hpN a b2 : Nat) : Int) == 0) = true := by simp [h0]
              have HYY := Lib.hid (HYes.out (by simp [h0]))
              clear h0
              go_wp2
              refine wp_region_held_drew (S := (fun w' => w'.cell? ⟨wr.heap.size, 0, none⟩ = some (.int .i64 a) ∧ w'.cell? ⟨wr.heap.size, 1, none⟩ = some (.int .i64 b2))) (by kernel_rfl) ?_ (fun hHeld => ?_)
              · ((try dsimp only); (repeat' apply And.intro); all_goals ((repeat (first | (with_reducible refine cell_drew ?_) | (with_reducible refine cell_drewN _ ?_) | ((with_reducible refine cell_alloc ?_ ?_); · first | omega | (simp; done) | (simp; omega) | assumption) | ((with_reducible refine cell_set ?_ ?_); · first | (intro e; injection e; omega) | (intro e; simp at e; done) | (intro e; simp at e; omega)))); first | assumption | (simp; done)))
              refine reg_on (i := 0) (d := 38) (v := ?rv9) rfl rfl (by kernel_rfl) (by kernel_rfl) (by kernel_rfl) (fun _ _ _ h => h) (by rfl) ?ry9 (by assumption) ?rr9
              case ry9 => (intro wz hSw; (try dsimp only at hSw); go_simp; try with_reducible rfl)
              (try simp only [Act.put, List.setIfInBounds_toArray, List.set_cons_zero, List.set_cons_succ])
              refine reg_on (i := 1) (d := 39) (v := ?rv10) rfl rfl (by kernel_rfl) (by kernel_rfl) (by kernel_rfl) (fun _ _ _ h => h) (by rfl) ?ry10 (by assumption) ?rr10
              case ry10 => (intro wz hSw; (try dsimp only at hSw); go_simp; try with_reducible rfl)
              (try simp only [Act.put, List.setIfInBounds_toArray, List.set_cons_zero, List.set_cons_succ])
              refine reg_on (i := 2) (d := 2) (v := ?rv11) rfl rfl (by kernel_rfl) (by kernel_rfl) (by kernel_rfl) (fun _ _ _ h => h) (by rfl) ?ry11 (by assumption) ?rr11
              case ry11 => (intro wz hSw; (try dsimp only at hSw); go_simp; try with_reducible rfl)
              (try simp only [Act.put, List.setIfInBounds_toArray, List.set_cons_zero, List.set_cons_succ])
              refine wpAnyH_ready (rs := [3]) (by kernel_rfl) (by simp) ?_
              refine AllReadyH.cons rfl (fun K hK => ?_) AllReadyH.nil
              go_simp
              refine hK.out _ _ ?_ (fun hHeld => ?_)
              · ((try dsimp only); (repeat' apply And.intro); all_goals ((repeat (first | (with_reducible refine cell_drew ?_) | (with_reducible refine cell_drewN _ ?_) | ((with_reducible refine cell_alloc ?_ ?_); · first | omega | (simp; done) | (simp; omega) | assumption) | ((with_reducible refine cell_set ?_ ?_); · first | (intro e; injection e; omega) | (intro e; simp at e; done) | (intro e; simp at e; omega)))); first | assumption | (simp; done)))
              clear hK K
              (try simp only [Act.put, List.setIfInBounds_toArray, List.set_cons_zero, List.set_cons_succ])
              refine reg_on (i := 4) (d := 4) (v := ?rv13) rfl rfl (by kernel_rfl) (by kernel_rfl) (by kernel_rfl) (fun _ _ _ h => h) (by rfl) ?ry13 (by assumption) ?rr13
              case ry13 => (intro wz hSw; (try dsimp only at hSw); go_simp; try with_reducible rfl)
              (try simp only [Act.put, List.setIfInBounds_toArray, List.set_cons_zero, List.set_cons_succ])
              refine wpAnyH_done (by kernel_rfl) ?_ _
              go_wp2
              have hv : fgS (xorA l) 0 l = some (k, (a, b2)) := by rw [HXG.out, HR.out, ← hE.out]; exact HSome.out _ _ (HGE.out.trans HYY.out)
              have HV := Lib.hid hv
              clear hv
              refine bodyPost_ret (v := fgV (some (k, (a, b2)))) (by simp [results, Try.results30, go_sem, fgI, fgX, fgY, fgO, *]) rfl ⟨by rw [HV.out], ?_⟩
              have hbf : Below w.heap.size w w7 := HBW2.out.trans (HB27.out.mono (by omega))
              (repeat (first | (with_reducible exact Below.refl _ _) | (with_reducible assumption) | (with_reducible refine Below.drew ?_) | ((with_reducible refine balloc ?_ _ ?_); · (first | (simp; done) | (simp; omega) | omega)) | ((with_reducible refine bset ?_ _ ?_); · (first | (simp; done) | (simp; omega) | omega)) | (with_reducible refine bdrewN _ ?_) | ((with_reducible refine bcall ?_ (by assumption) ?_); · (first | (simp; done) | (simp; omega) | omega))))
            · have t0 : (((G2 ^^^ hpN a b2 : Nat) : Int) == 0) = false := by simp; omega
              have HYY := Lib.hid ((HZ.out (by simp [h0])).trans hF.out)
              clear h0
              go_wp2
              go_roundw
              case rel => exact ⟨j + 1, by omega, by go_num, HYY, HB37.out⟩
              case measure => simp [intOf]; omega
          · have hjn : j = n3 := by omega
            have hFF := hF.out
            rw [hjn, List.take_of_length_le (by rw [HML.out]; exact Nat.le_refl _)] at hFF
            have HE2 := Lib.hid ((HNone.out (HGE.out.trans hFF)).symm.trans hE.out)
            have HB2r := Lib.hid (HB3.out.trans (hB.mono (by have := HB3.out.size; omega)))
            clear hFF hjn hB
            go_wp2
            go_roundw
            case rel => exact ⟨k + 1, by omega, by go_num, HE2, HB2r.out⟩
            case measure => simp [intOf]; omega
      · go_wp2
        have HE2 := hE.out
        rw [fgS_end _ _ (by rw [HL.out]; omega)] at HE2
        have hv : fgS (xorA l) 0 l = none := by rw [HXG.out, HR.out, ← HE2]
        have HV := Lib.hid hv
        clear HE2 hv
        have hbf : Below w.heap.size w wr := HBW2.out.trans (hB.mono (by omega))
        refine bodyPost_ret (v := fgV none) (by simp [results, Try.results30, go_sem, fgI, fgX, fgY, fgO, *]) rfl ⟨by rw [HV.out], ?_⟩
        (repeat (first | (with_reducible exact Below.refl _ _) | (with_reducible assumption) | (with_reducible refine Below.drew ?_) | ((with_reducible refine balloc ?_ _ ?_); · (first | (simp; done) | (simp; omega) | omega)) | ((with_reducible refine bset ?_ _ ?_); · (first | (simp; done) | (simp; omega) | omega)) | (with_reducible refine bdrewN _ ?_) | ((with_reducible refine bcall ?_ (by assumption) ?_); · (first | (simp; done) | (simp; omega) | omega))))

end Go.Proofs.Ythemmckchmpicaa
