/-
  Contract: what the poorest of the program can have (poorestAtBest). Conditions: shares in order.
-/
import Derived.Test.YtkijcpbjjbhnhaaPoorR
namespace Go.Proofs.Ytkijcpbjjbhnhaa
open Go.RowKit
set_option linter.unusedVariables false
set_option linter.unusedSimpArgs false

set_option maxRecDepth 100000 in
set_option maxHeartbeats 4000000 in
theorem poorAt_any : ∀ (ws h : List Int) (n c : Nat) (A : Option Addr) (w : World), Rd w 1 A n (intCells ws) → n ≤ 12 → n ≤ c → c ≤ 4000000000 → 1 ≤ h.length → h.length ≤ 4 → minL h = h.getD 0 0 → (∀ x ∈ h, 0 ≤ x ∧ x ≤ 20000 - 1000 * (n : Int)) → (∀ z ∈ ws, 1 ≤ z ∧ z ≤ 1000) →
    Calls Try.prog 56 #[arr4 h, .int .i64 h.length, .slice A n c] w fun e w' => e = .returned (.int .i64 (poorV ws h)) ∧ Below w.heap.size w w'
  | [], h, n, c, A, w, hr, hn, hc, hc2, hh1, hh4, hmin, hhb, hz => by
    have hn0 : n = 0 := by have := hr.ilen; simpa using this.symm
    subst hn0
    have hbA : Below w.heap.size w (w.alloc (.cells #[.int .i64 (h.getD 0 0), .int .i64 (h.getD 1 0), .int .i64 (h.getD 2 0), .int .i64 (h.getD 3 0)] 52)) := (Below.refl _ _).alloc (Nat.le_refl _) _
    have HB := Lib.hid hbA
    have HV : Hid (poorV [] h = h.getD 0 0) := hmin
    rw [HV.out]
    obtain ⟨a0, ha0⟩ : ∃ x, Hid (h.getD 0 0 = x) := ⟨_, rfl⟩
    obtain ⟨a1, ha1⟩ : ∃ x, Hid (h.getD 1 0 = x) := ⟨_, rfl⟩
    obtain ⟨a2, ha2⟩ : ∃ x, Hid (h.getD 2 0 = x) := ⟨_, rfl⟩
    obtain ⟨a3, ha3⟩ : ∃ x, Hid (h.getD 3 0 = x) := ⟨_, rfl⟩
    unfold arr4
    rw [ha0.out, ha1.out, ha2.out, ha3.out] at HB ⊢
    clear ha0 ha1 ha2 ha3 HV hmin hhb hz hbA hr
    go_enter Try.func56, Try.ntmps56
    go_wp2
    go_ret
    exact ⟨rfl, HB.out⟩
  | v :: ws, h, n, c, A, w, hr, hn, hc, hc2, hh1, hh4, hmin, hhb, hz => by
    obtain ⟨k, rfl⟩ : ∃ k, n = k + 1 := ⟨ws.length, by have := hr.ilen; simpa using this.symm⟩
    have HIH := Lib.hid (poorAt_any ws)
    have hv := hz v (by simp)
    have HZ := Lib.hid (fun z hz' => hz z (List.mem_cons_of_mem _ hz') : ∀ z ∈ ws, 1 ≤ z ∧ z ≤ 1000)
    have HHB := Lib.hid hhb
    obtain ⟨b, o, rfl, hbl, hx0, p0⟩ := hr.num (show 0 < k + 1 by omega)
    have e0 : (v :: ws)[0] = v := rfl
    rw [e0, Nat.add_zero] at p0
    have HR := Lib.hid hr
    have b0 := (Bx.new w h).alloc (.cells #[.int .i64 0, .int .i64 0, .int .i64 0, .int .i64 0] 52)
    have z0 : Bx ((w.alloc (.cells #[.int .i64 (h.getD 0 0), .int .i64 (h.getD 1 0), .int .i64 (h.getD 2 0), .int .i64 (h.getD 3 0)] 52)).alloc (.cells #[.int .i64 0, .int .i64 0, .int .i64 0, .int .i64 0] 52)) (w.heap.size + 1) [] := by
      have := Bx.new (w.alloc (.cells #[.int .i64 (h.getD 0 0), .int .i64 (h.getD 1 0), .int .i64 (h.getD 2 0), .int .i64 (h.getD 3 0)] 52)) []
      simpa using this
    have hB0 : Below w.heap.size w ((w.alloc (.cells #[.int .i64 (h.getD 0 0), .int .i64 (h.getD 1 0), .int .i64 (h.getD 2 0), .int .i64 (h.getD 3 0)] 52)).alloc (.cells #[.int .i64 0, .int .i64 0, .int .i64 0, .int .i64 0] 52)) := ((Below.refl _ _).alloc (Nat.le_refl _) _).alloc (by simp) _
    have HB0 := Lib.hid hB0
    have B0 := Lib.hid b0
    have Z0 := Lib.hid z0
    obtain ⟨m, hm⟩ : ∃ m, Hid (h.length = m) := ⟨_, rfl⟩
    rw [hm.out] at hh1 hh4 ⊢
    obtain ⟨a0, ha0⟩ : ∃ x, Hid (h.getD 0 0 = x) := ⟨_, rfl⟩
    obtain ⟨a1, ha1⟩ : ∃ x, Hid (h.getD 1 0 = x) := ⟨_, rfl⟩
    obtain ⟨a2, ha2⟩ : ∃ x, Hid (h.getD 2 0 = x) := ⟨_, rfl⟩
    obtain ⟨a3, ha3⟩ : ∃ x, Hid (h.getD 3 0 = x) := ⟨_, rfl⟩
    unfold arr4
    rw [ha0.out, ha1.out, ha2.out, ha3.out] at HB0 B0 Z0 ⊢
    have hk1 : ((k : Int) + 1 = 0) = False := by simp; omega
    have hlen0 : (0 : Int) < (k : Int) + 1 := by omega
    obtain ⟨R, hR⟩ : ∃ R, Hid (poorV (v :: ws) h = R) := ⟨_, rfl⟩
    rw [hR.out]
    clear hz hhb hr hmin e0 hx0 b0 z0 hB0
    go_enter Try.func56, Try.ntmps56
    go_wp2
    go_loopw [7, 17] (fun t i wr => ∃ (i' : Nat) (t' : Int) (T : List Int), i' ≤ m ∧ i = .int .i64 (i' : Int) ∧ t = .int .i64 t' ∧ 0 ≤ t' ∧ Hid (TopI h v ws i' t') ∧ Hid (Bx wr w.heap.size h) ∧ Hid (Bx wr (w.heap.size + 1) T) ∧ Hid (Tried h v i' T) ∧ Hid (Below w.heap.size w wr)) (fun _ i _ => m - (intOf i).toNat)
    case atStart => exact ⟨0, 0, [], Nat.zero_le _, rfl, rfl, Int.le_refl _, TopI.start (Int.le_refl _), B0.out, Z0.out, .inl rfl, HB0.out⟩
    case round =>
      clear HB0 B0 Z0
      obtain ⟨i, t, T, hi, rfl, rfl, ht0, hTop, hb, ht, hTr, hB⟩ := hrel
      by_cases hlt : i < m
      · have hil : i < h.length := by rw [hm.out]; exact hlt
        have hxi : 0 ≤ h.getD i 0 ∧ h.getD i 0 ≤ 100000 := by
          have := HHB.out _ (List.getElem_mem hil)
          rw [show h.getD i 0 = h[i] by simp [List.getD, hil]]; omega
        have HW := Lib.hid (fun wx => with_any h i v wx hil (by rw [hm.out]; exact hh4) hxi (by omega))
        obtain ⟨S, hS⟩ : ∃ S, Hid (srt (bumpL h i v) = S) := ⟨_, rfl⟩
        rw [hS.out, hm.out] at HW
        have c0 : wr.cell? ⟨w.heap.size, 0, none⟩ = some (.int .i64 a0) := by rw [← ha0.out]; exact hb.out.cell (by omega)
        have c1 : wr.cell? ⟨w.heap.size, 1, none⟩ = some (.int .i64 a1) := by rw [← ha1.out]; exact hb.out.cell (by omega)
        have c2 : wr.cell? ⟨w.heap.size, 2, none⟩ = some (.int .i64 a2) := by rw [← ha2.out]; exact hb.out.cell (by omega)
        have c3 : wr.cell? ⟨w.heap.size, 3, none⟩ = some (.int .i64 a3) := by rw [← ha3.out]; exact hb.out.cell (by omega)
        have p1 : wr.cell? ⟨b, o, none⟩ = some (.int .i64 v) := (hB.out.cell (p := ⟨b, o, none⟩) hbl).trans p0
        unfold arr4 at HW
        rw [ha0.out, ha1.out, ha2.out, ha3.out] at HW
        obtain ⟨s0, hs0⟩ : ∃ x, Hid (S.getD 0 0 = x) := ⟨_, rfl⟩
        obtain ⟨s1, hs1⟩ : ∃ x, Hid (S.getD 1 0 = x) := ⟨_, rfl⟩
        obtain ⟨s2, hs2⟩ : ∃ x, Hid (S.getD 2 0 = x) := ⟨_, rfl⟩
        obtain ⟨s3, hs3⟩ : ∃ x, Hid (S.getD 3 0 = x) := ⟨_, rfl⟩
        rw [hs0.out, hs1.out, hs2.out, hs3.out] at HW
        have hsz1 : w.heap.size + 1 < wr.heap.size := ht.out.lt
        clear hxi hil
        go_wp2
        refine wp_region_held_drew (S := (fun w' => w'.cell? ⟨w.heap.size, 0, none⟩ = some (.int .i64 a0) ∧ w'.cell? ⟨w.heap.size, 1, none⟩ = some (.int .i64 a1) ∧ w'.cell? ⟨w.heap.size, 2, none⟩ = some (.int .i64 a2) ∧ w'.cell? ⟨w.heap.size, 3, none⟩ = some (.int .i64 a3) ∧ w'.cell? ⟨b, o, none⟩ = some (.int .i64 v))) (by kernel_rfl) ?_ (fun hHeld => ?_)
        · ((try dsimp only); (repeat' apply And.intro); all_goals ((repeat (first | (with_reducible refine cell_drew ?_) | (with_reducible refine cell_drewN _ ?_) | ((with_reducible refine cell_alloc ?_ ?_); · first | omega | (simp; done) | (simp; omega) | assumption) | ((with_reducible refine cell_set ?_ ?_); · first | (intro e; injection e; omega) | (intro e; simp at e; done) | (intro e; simp at e; omega)))); first | assumption | (simp; done)))
        refine reg_on (i := 0) (d := 20) (v := ?rv1) rfl rfl (by kernel_rfl) (by kernel_rfl) (by kernel_rfl) (fun _ _ _ h => h) (by rfl) ?ry1 (by assumption) ?rr1
        case ry1 => (intro wz hSw; (try dsimp only at hSw); go_simp; try with_reducible rfl)
        (try simp only [Act.put, List.setIfInBounds_toArray, List.set_cons_zero, List.set_cons_succ])
        refine reg_on (i := 1) (d := 21) (v := ?rv2) rfl rfl (by kernel_rfl) (by kernel_rfl) (by kernel_rfl) (fun _ _ _ h => h) (by rfl) ?ry2 (by assumption) ?rr2
        case ry2 => (intro wz hSw; (try dsimp only at hSw); go_simp; try with_reducible rfl)
        (try simp only [Act.put, List.setIfInBounds_toArray, List.set_cons_zero, List.set_cons_succ])
        refine reg_on (i := 2) (d := 22) (v := ?rv3) rfl rfl (by kernel_rfl) (by kernel_rfl) (by kernel_rfl) (fun _ _ _ h => h) (by rfl) ?ry3 (by assumption) ?rr3
        case ry3 => (intro wz hSw; (try dsimp only at hSw); go_simp; try with_reducible rfl)
        (try simp only [Act.put, List.setIfInBounds_toArray, List.set_cons_zero, List.set_cons_succ])
        refine reg_on (i := 3) (d := 23) (v := ?rv4) rfl rfl (by kernel_rfl) (by kernel_rfl) (by kernel_rfl) (fun _ _ _ h => h) (by rfl) ?ry4 (by assumption) ?rr4
        case ry4 => (intro wz hSw; (try dsimp only at hSw); go_simp; try with_reducible rfl)
        (try simp only [Act.put, List.setIfInBounds_toArray, List.set_cons_zero, List.set_cons_succ])
        refine reg_on (i := 4) (d := 24) (v := ?rv5) rfl rfl (by kernel_rfl) (by kernel_rfl) (by kernel_rfl) (fun _ _ _ h => h) (by rfl) ?ry5 (by assumption) ?rr5
        case ry5 => (intro wz hSw; (try dsimp only at hSw); go_simp; try with_reducible rfl)
        (try simp only [Act.put, List.setIfInBounds_toArray, List.set_cons_zero, List.set_cons_succ])
        refine reg_on (i := 5) (d := 25) (v := ?rv6) rfl rfl (by kernel_rfl) (by kernel_rfl) (by kernel_rfl) (fun _ _ _ h => h) (by rfl) ?ry6 (by assumption) ?rr6
        case ry6 => (intro wz hSw; (try dsimp only at hSw); go_simp; try with_reducible rfl)
        (try simp only [Act.put, List.setIfInBounds_toArray, List.set_cons_zero, List.set_cons_succ])
        refine wpAnyH_ready (rs := [6, 7]) (by kernel_rfl) (by simp) ?_
        refine AllReadyH.cons rfl (fun K hK => ?_) (AllReadyH.cons rfl (fun K hK => ?_) (AllReadyH.nil))
        ·
          go_simp
          go_at_call 78; refine (HW.out _).mono ?_; rintro e wx ⟨rfl, hbx⟩; have sx : w.heap.size + 1 < wx.heap.size := (by have q := hbx.size; simp at q; omega); have d0 : wx.cell? ⟨w.heap.size, 0, none⟩ = some (.int .i64 a0) := (hbx.cell (p := ⟨w.heap.size, 0, none⟩) (by simp; omega)).trans (by first | exact c0 | ((repeat (first | (with_reducible refine cell_drew ?_) | (with_reducible refine cell_drewN _ ?_) | ((with_reducible refine cell_alloc ?_ ?_); · first | omega | (simp; done) | (simp; omega) | assumption) | ((with_reducible refine cell_set ?_ ?_); · first | (intro e; injection e; omega) | (intro e; simp at e; done) | (intro e; simp at e; omega)))); exact c0)); have d1 : wx.cell? ⟨w.heap.size, 1, none⟩ = some (.int .i64 a1) := (hbx.cell (p := ⟨w.heap.size, 1, none⟩) (by simp; omega)).trans (by first | exact c1 | ((repeat (first | (with_reducible refine cell_drew ?_) | (with_reducible refine cell_drewN _ ?_) | ((with_reducible refine cell_alloc ?_ ?_); · first | omega | (simp; done) | (simp; omega) | assumption) | ((with_reducible refine cell_set ?_ ?_); · first | (intro e; injection e; omega) | (intro e; simp at e; done) | (intro e; simp at e; omega)))); exact c1)); have d2 : wx.cell? ⟨w.heap.size, 2, none⟩ = some (.int .i64 a2) := (hbx.cell (p := ⟨w.heap.size, 2, none⟩) (by simp; omega)).trans (by first | exact c2 | ((repeat (first | (with_reducible refine cell_drew ?_) | (with_reducible refine cell_drewN _ ?_) | ((with_reducible refine cell_alloc ?_ ?_); · first | omega | (simp; done) | (simp; omega) | assumption) | ((with_reducible refine cell_set ?_ ?_); · first | (intro e; injection e; omega) | (intro e; simp at e; done) | (intro e; simp at e; omega)))); exact c2)); have d3 : wx.cell? ⟨w.heap.size, 3, none⟩ = some (.int .i64 a3) := (hbx.cell (p := ⟨w.heap.size, 3, none⟩) (by simp; omega)).trans (by first | exact c3 | ((repeat (first | (with_reducible refine cell_drew ?_) | (with_reducible refine cell_drewN _ ?_) | ((with_reducible refine cell_alloc ?_ ?_); · first | omega | (simp; done) | (simp; omega) | assumption) | ((with_reducible refine cell_set ?_ ?_); · first | (intro e; injection e; omega) | (intro e; simp at e; done) | (intro e; simp at e; omega)))); exact c3)); have d4 : wx.cell? ⟨b, o, none⟩ = some (.int .i64 v) := (hbx.cell (p := ⟨b, o, none⟩) (by simp; omega)).trans (by first | exact p1 | ((repeat (first | (with_reducible refine cell_drew ?_) | (with_reducible refine cell_drewN _ ?_) | ((with_reducible refine cell_alloc ?_ ?_); · first | omega | (simp; done) | (simp; omega) | assumption) | ((with_reducible refine cell_set ?_ ?_); · first | (intro e; injection e; omega) | (intro e; simp at e; done) | (intro e; simp at e; omega)))); exact p1)); try (have y0 : wx.cell? ⟨wr.heap.size, 0, none⟩ = some (.int .i64 0) := (hbx.cell (p := ⟨wr.heap.size, 0, none⟩) (by simp; done)).trans (by simp [go_sem]); have y1 : wx.cell? ⟨wr.heap.size, 1, none⟩ = some (.int .i64 0) := (hbx.cell (p := ⟨wr.heap.size, 1, none⟩) (by simp; done)).trans (by simp [go_sem]); have y2 : wx.cell? ⟨wr.heap.size, 2, none⟩ = some (.int .i64 0) := (hbx.cell (p := ⟨wr.heap.size, 2, none⟩) (by simp; done)).trans (by simp [go_sem]); have y3 : wx.cell? ⟨wr.heap.size, 3, none⟩ = some (.int .i64 0) := (hbx.cell (p := ⟨wr.heap.size, 3, none⟩) (by simp; done)).trans (by simp [go_sem]); have g0 : wx.frozen? ⟨wr.heap.size, 0, none⟩ = false := (hbx.frozen (p := ⟨wr.heap.size, 0, none⟩) (by simp; done)).trans (by simp [go_sem]); have g1 : wx.frozen? ⟨wr.heap.size, 1, none⟩ = false := (hbx.frozen (p := ⟨wr.heap.size, 1, none⟩) (by simp; done)).trans (by simp [go_sem]); have g2 : wx.frozen? ⟨wr.heap.size, 2, none⟩ = false := (hbx.frozen (p := ⟨wr.heap.size, 2, none⟩) (by simp; done)).trans (by simp [go_sem]); have g3 : wx.frozen? ⟨wr.heap.size, 3, none⟩ = false := (hbx.frozen (p := ⟨wr.heap.size, 3, none⟩) (by simp; done)).trans (by simp [go_sem]); have sy : wr.heap.size < wx.heap.size := (by have q := hbx.size; simp at q; omega))
          refine hK.out _ _ ?_ (fun hHeld => ?_)
          · ((try dsimp only); (repeat' apply And.intro); all_goals ((repeat (first | (with_reducible refine cell_drew ?_) | (with_reducible refine cell_drewN _ ?_) | ((with_reducible refine cell_alloc ?_ ?_); · first | omega | (simp; done) | (simp; omega) | assumption) | ((with_reducible refine cell_set ?_ ?_); · first | (intro e; injection e; omega) | (intro e; simp at e; done) | (intro e; simp at e; omega)))); first | assumption | (simp; done)))
          clear hK K
          (try simp only [Act.put, List.setIfInBounds_toArray, List.set_cons_zero, List.set_cons_succ])
          refine wpAnyH_ready (rs := [7]) (by kernel_rfl) (by simp) ?_
          refine AllReadyH.cons rfl (fun K hK => ?_) (AllReadyH.nil)
          go_simp
          refine hK.out _ _ ?_ (fun hHeld => ?_)
          · ((try dsimp only); (repeat' apply And.intro); all_goals ((repeat (first | (with_reducible refine cell_drew ?_) | (with_reducible refine cell_drewN _ ?_) | ((with_reducible refine cell_alloc ?_ ?_); · first | omega | (simp; done) | (simp; omega) | assumption) | ((with_reducible refine cell_set ?_ ?_); · first | (intro e; injection e; omega) | (intro e; simp at e; done) | (intro e; simp at e; omega)))); first | assumption | (simp; done)))
          clear hK K
          (try simp only [Act.put, List.setIfInBounds_toArray, List.set_cons_zero, List.set_cons_succ])
          refine wpAnyH_ready (rs := [8]) (by kernel_rfl) (by simp) ?_
          refine AllReadyH.cons rfl (fun K hK => ?_) AllReadyH.nil
          go_simp
          refine hK.out _ _ ?_ (fun hHeld => ?_)
          · ((try dsimp only); (repeat' apply And.intro); all_goals ((repeat (first | (with_reducible refine cell_drew ?_) | (with_reducible refine cell_drewN _ ?_) | ((with_reducible refine cell_alloc ?_ ?_); · first | omega | (simp; done) | (simp; omega) | assumption) | ((with_reducible refine cell_set ?_ ?_); · first | (intro e; injection e; omega) | (intro e; simp at e; done) | (intro e; simp at e; omega)))); first | assumption | (simp; done)))
          clear hK K
          (try simp only [Act.put, List.setIfInBounds_toArray, List.set_cons_zero, List.set_cons_succ])
          refine wpAnyH_done (by kernel_rfl) ?_ _
          first
            | (obtain ⟨W, hW⟩ : ∃ W, Hid (wx.alloc (.cells #[.int .i64 s0, .int .i64 s1, .int .i64 s2, .int .i64 s3] 52) = W) := ⟨_, rfl⟩
               rw [hW.out]
               have BS := Bx.new wx S
               rw [hs0.out, hs1.out, hs2.out, hs3.out, hW.out] at BS
               have HH := (Bx.below (w := wr.drew) hb.out hbx (Nat.le_refl _)).alloc (.cells #[.int .i64 s0, .int .i64 s1, .int .i64 s2, .int .i64 s3] 52)
               have HT := (Bx.below (w := wr.drew) ht.out hbx (Nat.le_refl _)).alloc (.cells #[.int .i64 s0, .int .i64 s1, .int .i64 s2, .int .i64 s3] 52)
               have HBW : Below w.heap.size w (wx.alloc (.cells #[.int .i64 s0, .int .i64 s1, .int .i64 s2, .int .i64 s3] 52)) := by have hB' := hB.out; (repeat (first | (with_reducible exact Below.refl _ _) | (with_reducible assumption) | (with_reducible refine Below.drew ?_) | ((with_reducible refine balloc ?_ _ ?_); · (first | (simp; done) | (simp; omega) | omega)) | ((with_reducible refine bset ?_ _ ?_); · (first | (simp; done) | (simp; omega) | omega)) | (with_reducible refine bdrewN _ ?_) | ((with_reducible refine bcall ?_ (by assumption) ?_); · (first | (simp; done) | (simp; omega) | omega))))
               rw [hW.out] at HH HT HBW
               obtain ⟨gt, hgt⟩ : ∃ gt, Hid (wx.heap.size = gt) := ⟨_, rfl⟩
               rw [hgt.out] at BS ⊢
               have hgl : w.heap.size + 1 < gt := by rw [← hgt.out]; exact sx)
            | (obtain ⟨W, hW⟩ : ∃ W, Hid ((((wx.setCell ⟨wr.heap.size, 0, none⟩ (.int .i64 s0)).setCell ⟨wr.heap.size, 1, none⟩ (.int .i64 s1)).setCell ⟨wr.heap.size, 2, none⟩ (.int .i64 s2)).setCell ⟨wr.heap.size, 3, none⟩ (.int .i64 s3) = W) := ⟨_, rfl⟩
               rw [hW.out]
               have BS := (Bx.below (w := (wr.alloc (.cells #[.int .i64 0, .int .i64 0, .int .i64 0, .int .i64 0] 52)).drew) (show Bx (wr.alloc (.cells #[.int .i64 0, .int .i64 0, .int .i64 0, .int .i64 0] 52)) wr.heap.size [] from Bx.new wr []) hbx (Nat.le_refl _)).put S
               rw [hs0.out, hs1.out, hs2.out, hs3.out, hW.out] at BS
               have HH := ((((Bx.below (w := (wr.alloc (.cells #[.int .i64 0, .int .i64 0, .int .i64 0, .int .i64 0] 52)).drew) (hb.out.alloc _) hbx (Nat.le_refl _)).other (a := ⟨wr.heap.size, 0, none⟩) (by simp; omega) (.int .i64 s0)).other (a := ⟨wr.heap.size, 1, none⟩) (by simp; omega) (.int .i64 s1)).other (a := ⟨wr.heap.size, 2, none⟩) (by simp; omega) (.int .i64 s2)).other (a := ⟨wr.heap.size, 3, none⟩) (by simp; omega) (.int .i64 s3)
               have HT := ((((Bx.below (w := (wr.alloc (.cells #[.int .i64 0, .int .i64 0, .int .i64 0, .int .i64 0] 52)).drew) (ht.out.alloc _) hbx (Nat.le_refl _)).other (a := ⟨wr.heap.size, 0, none⟩) (by simp; omega) (.int .i64 s0)).other (a := ⟨wr.heap.size, 1, none⟩) (by simp; omega) (.int .i64 s1)).other (a := ⟨wr.heap.size, 2, none⟩) (by simp; omega) (.int .i64 s2)).other (a := ⟨wr.heap.size, 3, none⟩) (by simp; omega) (.int .i64 s3)
               have HBW : Below w.heap.size w ((((wx.setCell ⟨wr.heap.size, 0, none⟩ (.int .i64 s0)).setCell ⟨wr.heap.size, 1, none⟩ (.int .i64 s1)).setCell ⟨wr.heap.size, 2, none⟩ (.int .i64 s2)).setCell ⟨wr.heap.size, 3, none⟩ (.int .i64 s3)) := by have hB' := hB.out; (repeat (first | (with_reducible exact Below.refl _ _) | (with_reducible assumption) | (with_reducible refine Below.drew ?_) | ((with_reducible refine balloc ?_ _ ?_); · (first | (simp; done) | (simp; omega) | omega)) | ((with_reducible refine bset ?_ _ ?_); · (first | (simp; done) | (simp; omega) | omega)) | (with_reducible refine bdrewN _ ?_) | ((with_reducible refine bcall ?_ (by assumption) ?_); · (first | (simp; done) | (simp; omega) | omega))))
               rw [hW.out] at HH HT HBW
               clear y0 y1 y2 y3 g0 g1 g2 g3
               obtain ⟨gt, hgt⟩ : ∃ gt, Hid (wr.heap.size = gt) := ⟨_, rfl⟩
               rw [hgt.out] at BS ⊢
               have hgl : w.heap.size + 1 < gt := by rw [← hgt.out]; exact hsz1)
          clear hHeld d0 d1 d2 d3 d4 hbx c0 c1 c2 c3 p1 hsz1 sx
          have hSl : S.length = m := by rw [← hS.out, length_srt, length_bumpL, hm.out]
          have hil : i < h.length := by rw [hm.out]; exact hlt
          have hbb := bump_bound (i := i) (v := v) HHB.out (by omega) (by omega)
          rw [hS.out] at hbb
          have HVS : Hid (poorV ws S = poorV ws (bumpL h i v)) := by simp only [Hid]; rw [← hS.out]; exact poorV_perm ws (srt_perm _)
          have hTb : ∀ x ∈ T, 0 ≤ x ∧ x ≤ 1000000 := by
            rcases hTr.out with rfl | ⟨j, hj, rfl⟩
            · intro x hx; cases hx
            · intro x hx; have := bump_bound (i := j) (v := v) HHB.out (by omega) (by omega) x hx; omega
          have HEQ := fun wy => eql_arr S T (fun j _ => wf_getD (fun x hx => by have := hbb x hx; omega) j) (fun j _ => wf_getD hTb j) wy
          have e0 := BS.cell (j := 0) (by omega)
          have e1 := BS.cell (j := 1) (by omega)
          have e2 := BS.cell (j := 2) (by omega)
          have e3 := BS.cell (j := 3) (by omega)
          have q0 := HT.cell (j := 0) (by omega)
          have q1 := HT.cell (j := 1) (by omega)
          have q2 := HT.cell (j := 2) (by omega)
          have q3 := HT.cell (j := 3) (by omega)
          have f0 := HT.frozen 0
          have f1 := HT.frozen 1
          have f2 := HT.frozen 2
          have f3 := HT.frozen 3
          have HTS := Lib.hid (fun e => tried_same (T := T) (i := i) hTr.out hil (by rw [hm.out]; exact hh4) (fun x hx => (HHB.out x hx).1) hv.1 e)
          rw [hS.out] at HTS
          have BSH := Lib.hid BS
          have HHH := Lib.hid HH
          have HTH := Lib.hid HT
          have HBWH := Lib.hid HBW
          have HBB := Lib.hid hbb
          have HSL := Lib.hid hSl
          have htl := HT.lt
          have hgl2 := BS.lt
          unfold arr4 at HEQ
          by_cases hsame : S.getD 0 0 = T.getD 0 0 ∧ S.getD 1 0 = T.getD 1 0 ∧ S.getD 2 0 = T.getD 2 0 ∧ S.getD 3 0 = T.getD 3 0
          · obtain ⟨j, hj, hjw⟩ := HTS.out hsame
            have HSK := Lib.hid (hTop.out.skip hj (hjw ws))
            have HTR2 : Hid (Tried h v (i + 1) T) := by
              rcases hTr.out with e | ⟨j, hj, e⟩
              · exact .inl e
              · exact .inr ⟨j, by omega, e⟩
            simp only [decide_eq_true hsame] at HEQ
            rw [hs0.out, hs1.out, hs2.out, hs3.out] at HEQ
            rw [hs0.out] at e0
            rw [hs1.out] at e1
            rw [hs2.out] at e2
            rw [hs3.out] at e3
            generalize T.getD 0 0 = t0 at *
            generalize T.getD 1 0 = t1 at *
            generalize T.getD 2 0 = t2 at *
            generalize T.getD 3 0 = t3 at *
            clear hsame hjw hTb hbb hSl hil BS HH HT HBW HTS
            go_wp2
            (refine ⟨?_, ?measure⟩; (repeat apply Exists.intro); refine ⟨?rel, rfl⟩)
            case rel => exact ⟨i + 1, t, T, by omega, by go_num, rfl, ht0, HSK.out, HHH.out, HTH.out, HTR2.out, HBWH.out⟩
            case measure => simp [intOf]; omega
          · simp only [decide_eq_false hsame] at HEQ
            rw [hs0.out, hs1.out, hs2.out, hs3.out] at HEQ
            have HTK := Lib.hid hTop.out.take
            rw [← HVS.out] at HTK
            have HTR2 : Hid (Tried h v (i + 1) S) := .inr ⟨i, by omega, hS.out.symm⟩
            have hVn : 0 ≤ poorV ws S := poorV_nonneg ws S (fun x hx => (hbb x hx).1)
            have HMS : Hid (minL S = S.getD 0 0) := by simp only [Hid]; rw [← hS.out]; exact minL_sorted (by rw [length_bumpL]; omega)
            have H2H := Lib.hid ((((HH.other (a := ⟨w.heap.size + 1, 0, none⟩) (by simp) (.int .i64 s0)).other (a := ⟨w.heap.size + 1, 1, none⟩) (by simp) (.int .i64 s1)).other (a := ⟨w.heap.size + 1, 2, none⟩) (by simp) (.int .i64 s2)).other (a := ⟨w.heap.size + 1, 3, none⟩) (by simp) (.int .i64 s3))
            have H2S := Lib.hid ((((BS.other (a := ⟨w.heap.size + 1, 0, none⟩) (by simp; omega) (.int .i64 s0)).other (a := ⟨w.heap.size + 1, 1, none⟩) (by simp; omega) (.int .i64 s1)).other (a := ⟨w.heap.size + 1, 2, none⟩) (by simp; omega) (.int .i64 s2)).other (a := ⟨w.heap.size + 1, 3, none⟩) (by simp; omega) (.int .i64 s3))
            have H2T := Lib.hid (HT.put S)
            rw [hs0.out, hs1.out, hs2.out, hs3.out] at H2T
            have H2B := Lib.hid (bset (p := ⟨w.heap.size + 1, 3, none⟩) (by simp) (.int .i64 s3) (bset (p := ⟨w.heap.size + 1, 2, none⟩) (by simp) (.int .i64 s2) (bset (p := ⟨w.heap.size + 1, 1, none⟩) (by simp) (.int .i64 s1) (bset (p := ⟨w.heap.size + 1, 0, none⟩) (by simp) (.int .i64 s0) HBW))))
            obtain ⟨W2, hW2⟩ : ∃ W2, Hid ((((W.setCell ⟨w.heap.size + 1, 0, none⟩ (.int .i64 s0)).setCell ⟨w.heap.size + 1, 1, none⟩ (.int .i64 s1)).setCell ⟨w.heap.size + 1, 2, none⟩ (.int .i64 s2)).setCell ⟨w.heap.size + 1, 3, none⟩ (.int .i64 s3) = W2) := ⟨_, rfl⟩
            rw [hW2.out] at H2H H2S H2T H2B
            have HR2 := Lib.hid (HR.out.later H2B.out (Nat.le_refl _))
            have hgl3 := H2S.out.lt
            rw [hs0.out] at e0
            rw [hs1.out] at e1
            rw [hs2.out] at e2
            rw [hs3.out] at e3
            generalize T.getD 0 0 = t0 at *
            generalize T.getD 1 0 = t1 at *
            generalize T.getD 2 0 = t2 at *
            generalize T.getD 3 0 = t3 at *
            clear hsame hTb hbb hil BS HH HT HBW HTS hTop ht hb hB
            by_cases hc1 : c = 1
            · have hk0 : k = 0 := by omega
              have HREC := Lib.hid (HIH.out S k 0 (some ⟨b, o, none⟩) W2.drew (Rd.tailW (show Rd W2.drew 1 _ _ _ from HR2.out) o (.inl (by omega))) (by omega) (by omega) (by omega) (by omega) (by omega) HMS.out (fun x hx => by have := HBB.out x hx; omega) HZ.out)
              rw [hSl] at HREC
              unfold arr4 at HREC
              rw [hs0.out, hs1.out, hs2.out, hs3.out] at HREC
              generalize poorV ws S = V at *
              clear hSl
              subst hc1 hk0
              go_wp2
              rw [hW2.out]
              have u0 : W2.cell? ⟨gt, 0, none⟩ = some (.int .i64 s0) := by rw [← hs0.out]; exact H2S.out.cell (by omega)
              have u1 : W2.cell? ⟨gt, 1, none⟩ = some (.int .i64 s1) := by rw [← hs1.out]; exact H2S.out.cell (by omega)
              have u2 : W2.cell? ⟨gt, 2, none⟩ = some (.int .i64 s2) := by rw [← hs2.out]; exact H2S.out.cell (by omega)
              have u3 : W2.cell? ⟨gt, 3, none⟩ = some (.int .i64 s3) := by rw [← hs3.out]; exact H2S.out.cell (by omega)
              clear e0 e1 e2 e3 q0 q1 q2 q3 f0 f1 f2 f3
              refine wp_region_held_drew (S := (fun w' => w'.cell? ⟨gt, 0, none⟩ = some (.int .i64 s0) ∧ w'.cell? ⟨gt, 1, none⟩ = some (.int .i64 s1) ∧ w'.cell? ⟨gt, 2, none⟩ = some (.int .i64 s2) ∧ w'.cell? ⟨gt, 3, none⟩ = some (.int .i64 s3))) (by kernel_rfl) ?_ (fun hHeld => ?_)
              · ((try dsimp only); (repeat' apply And.intro); all_goals ((repeat (first | (with_reducible refine cell_drew ?_) | (with_reducible refine cell_drewN _ ?_) | ((with_reducible refine cell_alloc ?_ ?_); · first | omega | (simp; done) | (simp; omega) | assumption) | ((with_reducible refine cell_set ?_ ?_); · first | (intro e; injection e; omega) | (intro e; simp at e; done) | (intro e; simp at e; omega)))); first | assumption | (simp; done)))
              refine reg_on (i := 0) (d := 31) (v := ?rv8) rfl rfl (by kernel_rfl) (by kernel_rfl) (by kernel_rfl) (fun _ _ _ h => h) (by rfl) ?ry8 (by assumption) ?rr8
              case ry8 => (intro wz hSw; (try dsimp only at hSw); go_simp; try with_reducible rfl)
              (try simp only [Act.put, List.setIfInBounds_toArray, List.set_cons_zero, List.set_cons_succ])
              refine reg_on (i := 1) (d := 32) (v := ?rv9) rfl rfl (by kernel_rfl) (by kernel_rfl) (by kernel_rfl) (fun _ _ _ h => h) (by rfl) ?ry9 (by assumption) ?rr9
              case ry9 => (intro wz hSw; (try dsimp only at hSw); go_simp; try with_reducible rfl)
              (try simp only [Act.put, List.setIfInBounds_toArray, List.set_cons_zero, List.set_cons_succ])
              refine reg_on (i := 2) (d := 33) (v := ?rv10) rfl rfl (by kernel_rfl) (by kernel_rfl) (by kernel_rfl) (fun _ _ _ h => h) (by rfl) ?ry10 (by assumption) ?rr10
              case ry10 => (intro wz hSw; (try dsimp only at hSw); go_simp; try with_reducible rfl)
              (try simp only [Act.put, List.setIfInBounds_toArray, List.set_cons_zero, List.set_cons_succ])
              refine reg_on (i := 3) (d := 34) (v := ?rv11) rfl rfl (by kernel_rfl) (by kernel_rfl) (by kernel_rfl) (fun _ _ _ h => h) (by rfl) ?ry11 (by assumption) ?rr11
              case ry11 => (intro wz hSw; (try dsimp only at hSw); go_simp; try with_reducible rfl)
              (try simp only [Act.put, List.setIfInBounds_toArray, List.set_cons_zero, List.set_cons_succ])
              refine reg_on (i := 4) (d := 35) (v := ?rv12) rfl rfl (by kernel_rfl) (by kernel_rfl) (by kernel_rfl) (fun _ _ _ h => h) (by rfl) ?ry12 (by assumption) ?rr12
              case ry12 => (intro wz hSw; (try dsimp only at hSw); go_simp; try with_reducible rfl)
              (try simp only [Act.put, List.setIfInBounds_toArray, List.set_cons_zero, List.set_cons_succ])
              refine wpAnyH_ready (rs := [5]) (by kernel_rfl) (by simp) ?_
              refine AllReadyH.cons rfl (fun K hK => ?_) AllReadyH.nil
              go_simp
              go_at_call 56; refine HREC.out.mono ?_; rintro e w5 ⟨rfl, hb5⟩; have x0 : w5.cell? ⟨gt, 0, none⟩ = some (.int .i64 s0) := (hb5.cell (p := ⟨gt, 0, none⟩) hgl3).trans u0; have x1 : w5.cell? ⟨gt, 1, none⟩ = some (.int .i64 s1) := (hb5.cell (p := ⟨gt, 1, none⟩) hgl3).trans u1; have x2 : w5.cell? ⟨gt, 2, none⟩ = some (.int .i64 s2) := (hb5.cell (p := ⟨gt, 2, none⟩) hgl3).trans u2; have x3 : w5.cell? ⟨gt, 3, none⟩ = some (.int .i64 s3) := (hb5.cell (p := ⟨gt, 3, none⟩) hgl3).trans u3
              refine hK.out _ _ ?_ (fun hHeld => ?_)
              · ((try dsimp only); (repeat' apply And.intro); all_goals ((repeat (first | (with_reducible refine cell_drew ?_) | (with_reducible refine cell_drewN _ ?_) | ((with_reducible refine cell_alloc ?_ ?_); · first | omega | (simp; done) | (simp; omega) | assumption) | ((with_reducible refine cell_set ?_ ?_); · first | (intro e; injection e; omega) | (intro e; simp at e; done) | (intro e; simp at e; omega)))); first | assumption | (simp; done)))
              clear hK K
              (try simp only [Act.put, List.setIfInBounds_toArray, List.set_cons_zero, List.set_cons_succ])
              refine reg_on (i := 6) (d := 37) (v := ?rv14) rfl rfl (by kernel_rfl) (by kernel_rfl) (by kernel_rfl) (fun _ _ _ h => h) (by rfl) ?ry14 (by assumption) ?rr14
              case ry14 => (intro wz hSw; (try dsimp only at hSw); go_simp; try with_reducible rfl)
              (try simp only [Act.put, List.setIfInBounds_toArray, List.set_cons_zero, List.set_cons_succ])
              refine reg_on (i := 7) (d := 7) (v := ?rv15) rfl rfl (by kernel_rfl) (by kernel_rfl) (by kernel_rfl) (fun _ _ _ h => h) (by rfl) ?ry15 (by assumption) ?rr15
              case ry15 => (intro wz hSw; (try dsimp only at hSw); go_simp; try with_reducible rfl)
              (try simp only [Act.put, List.setIfInBounds_toArray, List.set_cons_zero, List.set_cons_succ])
              refine wpAnyH_done (by kernel_rfl) ?_ _
              have F1 := Lib.hid (Bx.below (w := W2.drew) H2H.out hb5 (Nat.le_refl _))
              have F2 := Lib.hid (Bx.below (w := W2.drew) H2T.out hb5 (Nat.le_refl _))
              have F3 := Lib.hid (H2B.out.drew.trans (hb5.mono H2B.out.size))
              clear hb5 hHeld x0 x1 x2 x3 u0 u1 u2 u3
              go_wp2
              (refine ⟨?_, ?measure⟩; (repeat apply Exists.intro); first | refine ⟨?rel, rfl⟩ | (refine ⟨?rel, ?eqs⟩; case eqs => (repeat' apply And.intro) <;> rfl))
              case rel => exact ⟨i + 1, max t V, S, by omega, by go_num, rfl, by omega, HTK.out, F1.out, F2.out, HTR2.out, F3.out⟩
              case measure => simp [intOf]; omega
            · have h1k : ((1 : Int) ≤ (k : Int) + 1) = True := by simp; omega
              have HREC := Lib.hid (HIH.out S k (c - 1) (some ⟨b, o + 1, none⟩) W2.drew (Rd.tailW (show Rd W2.drew 1 _ _ _ from HR2.out) (o + 1) (.inr rfl)) (by omega) (by omega) (by omega) (by omega) (by omega) HMS.out (fun x hx => by have := HBB.out x hx; omega) HZ.out)
              rw [hSl] at HREC
              unfold arr4 at HREC
              rw [hs0.out, hs1.out, hs2.out, hs3.out] at HREC
              generalize poorV ws S = V at *
              clear hSl
              go_wp2
              rw [hW2.out]
              have u0 : W2.cell? ⟨gt, 0, none⟩ = some (.int .i64 s0) := by rw [← hs0.out]; exact H2S.out.cell (by omega)
              have u1 : W2.cell? ⟨gt, 1, none⟩ = some (.int .i64 s1) := by rw [← hs1.out]; exact H2S.out.cell (by omega)
              have u2 : W2.cell? ⟨gt, 2, none⟩ = some (.int .i64 s2) := by rw [← hs2.out]; exact H2S.out.cell (by omega)
              have u3 : W2.cell? ⟨gt, 3, none⟩ = some (.int .i64 s3) := by rw [← hs3.out]; exact H2S.out.cell (by omega)
              clear e0 e1 e2 e3 q0 q1 q2 q3 f0 f1 f2 f3
              refine wp_region_held_drew (S := (fun w' => w'.cell? ⟨gt, 0, none⟩ = some (.int .i64 s0) ∧ w'.cell? ⟨gt, 1, none⟩ = some (.int .i64 s1) ∧ w'.cell? ⟨gt, 2, none⟩ = some (.int .i64 s2) ∧ w'.cell? ⟨gt, 3, none⟩ = some (.int .i64 s3))) (by kernel_rfl) ?_ (fun hHeld => ?_)
              · ((try dsimp only); (repeat' apply And.intro); all_goals ((repeat (first | (with_reducible refine cell_drew ?_) | (with_reducible refine cell_drewN _ ?_) | ((with_reducible refine cell_alloc ?_ ?_); · first | omega | (simp; done) | (simp; omega) | assumption) | ((with_reducible refine cell_set ?_ ?_); · first | (intro e; injection e; omega) | (intro e; simp at e; done) | (intro e; simp at e; omega)))); first | assumption | (simp; done)))
              refine reg_on (i := 0) (d := 31) (v := ?rv16) rfl rfl (by kernel_rfl) (by kernel_rfl) (by kernel_rfl) (fun _ _ _ h => h) (by rfl) ?ry16 (by assumption) ?rr16
              case ry16 => (intro wz hSw; (try dsimp only at hSw); go_simp; try with_reducible rfl)
              (try simp only [Act.put, List.setIfInBounds_toArray, List.set_cons_zero, List.set_cons_succ])
              refine reg_on (i := 1) (d := 32) (v := ?rv17) rfl rfl (by kernel_rfl) (by kernel_rfl) (by kernel_rfl) (fun _ _ _ h => h) (by rfl) ?ry17 (by assumption) ?rr17
              case ry17 => (intro wz hSw; (try dsimp only at hSw); go_simp; try with_reducible rfl)
              (try simp only [Act.put, List.setIfInBounds_toArray, List.set_cons_zero, List.set_cons_succ])
              refine reg_on (i := 2) (d := 33) (v := ?rv18) rfl rfl (by kernel_rfl) (by kernel_rfl) (by kernel_rfl) (fun _ _ _ h => h) (by rfl) ?ry18 (by assumption) ?rr18
              case ry18 => (intro wz hSw; (try dsimp only at hSw); go_simp; try with_reducible rfl)
              (try simp only [Act.put, List.setIfInBounds_toArray, List.set_cons_zero, List.set_cons_succ])
              refine reg_on (i := 3) (d := 34) (v := ?rv19) rfl rfl (by kernel_rfl) (by kernel_rfl) (by kernel_rfl) (fun _ _ _ h => h) (by rfl) ?ry19 (by assumption) ?rr19
              case ry19 => (intro wz hSw; (try dsimp only at hSw); go_simp; try with_reducible rfl)
              (try simp only [Act.put, List.setIfInBounds_toArray, List.set_cons_zero, List.set_cons_succ])
              refine reg_on (i := 4) (d := 35) (v := ?rv20) rfl rfl (by kernel_rfl) (by kernel_rfl) (by kernel_rfl) (fun _ _ _ h => h) (by rfl) ?ry20 (by assumption) ?rr20
              case ry20 => (intro wz hSw; (try dsimp only at hSw); go_simp; try with_reducible rfl)
              (try simp only [Act.put, List.setIfInBounds_toArray, List.set_cons_zero, List.set_cons_succ])
              refine wpAnyH_ready (rs := [5]) (by kernel_rfl) (by simp) ?_
              refine AllReadyH.cons rfl (fun K hK => ?_) AllReadyH.nil
              go_simp
              go_at_call 56; refine HREC.out.mono ?_; rintro e w5 ⟨rfl, hb5⟩; have x0 : w5.cell? ⟨gt, 0, none⟩ = some (.int .i64 s0) := (hb5.cell (p := ⟨gt, 0, none⟩) hgl3).trans u0; have x1 : w5.cell? ⟨gt, 1, none⟩ = some (.int .i64 s1) := (hb5.cell (p := ⟨gt, 1, none⟩) hgl3).trans u1; have x2 : w5.cell? ⟨gt, 2, none⟩ = some (.int .i64 s2) := (hb5.cell (p := ⟨gt, 2, none⟩) hgl3).trans u2; have x3 : w5.cell? ⟨gt, 3, none⟩ = some (.int .i64 s3) := (hb5.cell (p := ⟨gt, 3, none⟩) hgl3).trans u3
              refine hK.out _ _ ?_ (fun hHeld => ?_)
              · ((try dsimp only); (repeat' apply And.intro); all_goals ((repeat (first | (with_reducible refine cell_drew ?_) | (with_reducible refine cell_drewN _ ?_) | ((with_reducible refine cell_alloc ?_ ?_); · first | omega | (simp; done) | (simp; omega) | assumption) | ((with_reducible refine cell_set ?_ ?_); · first | (intro e; injection e; omega) | (intro e; simp at e; done) | (intro e; simp at e; omega)))); first | assumption | (simp; done)))
              clear hK K
              (try simp only [Act.put, List.setIfInBounds_toArray, List.set_cons_zero, List.set_cons_succ])
              refine reg_on (i := 6) (d := 37) (v := ?rv22) rfl rfl (by kernel_rfl) (by kernel_rfl) (by kernel_rfl) (fun _ _ _ h => h) (by rfl) ?ry22 (by assumption) ?rr22
              case ry22 => (intro wz hSw; (try dsimp only at hSw); go_simp; try with_reducible rfl)
              (try simp only [Act.put, List.setIfInBounds_toArray, List.set_cons_zero, List.set_cons_succ])
              refine reg_on (i := 7) (d := 7) (v := ?rv23) rfl rfl (by kernel_rfl) (by kernel_rfl) (by kernel_rfl) (fun _ _ _ h => h) (by rfl) ?ry23 (by assumption) ?rr23
              case ry23 => (intro wz hSw; (try dsimp only at hSw); go_simp; try with_reducible rfl)
              (try simp only [Act.put, List.setIfInBounds_toArray, List.set_cons_zero, List.set_cons_succ])
              refine wpAnyH_done (by kernel_rfl) ?_ _
              have F1 := Lib.hid (Bx.below (w := W2.drew) H2H.out hb5 (Nat.le_refl _))
              have F2 := Lib.hid (Bx.below (w := W2.drew) H2T.out hb5 (Nat.le_refl _))
              have F3 := Lib.hid (H2B.out.drew.trans (hb5.mono H2B.out.size))
              clear hb5 hHeld x0 x1 x2 x3 u0 u1 u2 u3
              go_wp2
              (refine ⟨?_, ?measure⟩; (repeat apply Exists.intro); first | refine ⟨?rel, rfl⟩ | (refine ⟨?rel, ?eqs⟩; case eqs => (repeat' apply And.intro) <;> rfl))
              case rel => exact ⟨i + 1, max t V, S, by omega, by go_num, rfl, by omega, HTK.out, F1.out, F2.out, HTR2.out, F3.out⟩
              case measure => simp [intOf]; omega
        ·
          go_simp
          refine hK.out _ _ ?_ (fun hHeld => ?_)
          · ((try dsimp only); (repeat' apply And.intro); all_goals ((repeat (first | (with_reducible refine cell_drew ?_) | (with_reducible refine cell_drewN _ ?_) | ((with_reducible refine cell_alloc ?_ ?_); · first | omega | (simp; done) | (simp; omega) | assumption) | ((with_reducible refine cell_set ?_ ?_); · first | (intro e; injection e; omega) | (intro e; simp at e; done) | (intro e; simp at e; omega)))); first | assumption | (simp; done)))
          clear hK K
          (try simp only [Act.put, List.setIfInBounds_toArray, List.set_cons_zero, List.set_cons_succ])
          refine wpAnyH_ready (rs := [6]) (by kernel_rfl) (by simp) ?_
          refine AllReadyH.cons rfl (fun K hK => ?_) (AllReadyH.nil)
          go_simp
          go_at_call 78; refine (HW.out _).mono ?_; rintro e wx ⟨rfl, hbx⟩; have sx : w.heap.size + 1 < wx.heap.size := (by have q := hbx.size; simp at q; omega); have d0 : wx.cell? ⟨w.heap.size, 0, none⟩ = some (.int .i64 a0) := (hbx.cell (p := ⟨w.heap.size, 0, none⟩) (by simp; omega)).trans (by first | exact c0 | ((repeat (first | (with_reducible refine cell_drew ?_) | (with_reducible refine cell_drewN _ ?_) | ((with_reducible refine cell_alloc ?_ ?_); · first | omega | (simp; done) | (simp; omega) | assumption) | ((with_reducible refine cell_set ?_ ?_); · first | (intro e; injection e; omega) | (intro e; simp at e; done) | (intro e; simp at e; omega)))); exact c0)); have d1 : wx.cell? ⟨w.heap.size, 1, none⟩ = some (.int .i64 a1) := (hbx.cell (p := ⟨w.heap.size, 1, none⟩) (by simp; omega)).trans (by first | exact c1 | ((repeat (first | (with_reducible refine cell_drew ?_) | (with_reducible refine cell_drewN _ ?_) | ((with_reducible refine cell_alloc ?_ ?_); · first | omega | (simp; done) | (simp; omega) | assumption) | ((with_reducible refine cell_set ?_ ?_); · first | (intro e; injection e; omega) | (intro e; simp at e; done) | (intro e; simp at e; omega)))); exact c1)); have d2 : wx.cell? ⟨w.heap.size, 2, none⟩ = some (.int .i64 a2) := (hbx.cell (p := ⟨w.heap.size, 2, none⟩) (by simp; omega)).trans (by first | exact c2 | ((repeat (first | (with_reducible refine cell_drew ?_) | (with_reducible refine cell_drewN _ ?_) | ((with_reducible refine cell_alloc ?_ ?_); · first | omega | (simp; done) | (simp; omega) | assumption) | ((with_reducible refine cell_set ?_ ?_); · first | (intro e; injection e; omega) | (intro e; simp at e; done) | (intro e; simp at e; omega)))); exact c2)); have d3 : wx.cell? ⟨w.heap.size, 3, none⟩ = some (.int .i64 a3) := (hbx.cell (p := ⟨w.heap.size, 3, none⟩) (by simp; omega)).trans (by first | exact c3 | ((repeat (first | (with_reducible refine cell_drew ?_) | (with_reducible refine cell_drewN _ ?_) | ((with_reducible refine cell_alloc ?_ ?_); · first | omega | (simp; done) | (simp; omega) | assumption) | ((with_reducible refine cell_set ?_ ?_); · first | (intro e; injection e; omega) | (intro e; simp at e; done) | (intro e; simp at e; omega)))); exact c3)); have d4 : wx.cell? ⟨b, o, none⟩ = some (.int .i64 v) := (hbx.cell (p := ⟨b, o, none⟩) (by simp; omega)).trans (by first | exact p1 | ((repeat (first | (with_reducible refine cell_drew ?_) | (with_reducible refine cell_drewN _ ?_) | ((with_reducible refine cell_alloc ?_ ?_); · first | omega | (simp; done) | (simp; omega) | assumption) | ((with_reducible refine cell_set ?_ ?_); · first | (intro e; injection e; omega) | (intro e; simp at e; done) | (intro e; simp at e; omega)))); exact p1)); try (have y0 : wx.cell? ⟨wr.heap.size, 0, none⟩ = some (.int .i64 0) := (hbx.cell (p := ⟨wr.heap.size, 0, none⟩) (by simp; done)).trans (by simp [go_sem]); have y1 : wx.cell? ⟨wr.heap.size, 1, none⟩ = some (.int .i64 0) := (hbx.cell (p := ⟨wr.heap.size, 1, none⟩) (by simp; done)).trans (by simp [go_sem]); have y2 : wx.cell? ⟨wr.heap.size, 2, none⟩ = some (.int .i64 0) := (hbx.cell (p := ⟨wr.heap.size, 2, none⟩) (by simp; done)).trans (by simp [go_sem]); have y3 : wx.cell? ⟨wr.heap.size, 3, none⟩ = some (.int .i64 0) := (hbx.cell (p := ⟨wr.heap.size, 3, none⟩) (by simp; done)).trans (by simp [go_sem]); have g0 : wx.frozen? ⟨wr.heap.size, 0, none⟩ = false := (hbx.frozen (p := ⟨wr.heap.size, 0, none⟩) (by simp; done)).trans (by simp [go_sem]); have g1 : wx.frozen? ⟨wr.heap.size, 1, none⟩ = false := (hbx.frozen (p := ⟨wr.heap.size, 1, none⟩) (by simp; done)).trans (by simp [go_sem]); have g2 : wx.frozen? ⟨wr.heap.size, 2, none⟩ = false := (hbx.frozen (p := ⟨wr.heap.size, 2, none⟩) (by simp; done)).trans (by simp [go_sem]); have g3 : wx.frozen? ⟨wr.heap.size, 3, none⟩ = false := (hbx.frozen (p := ⟨wr.heap.size, 3, none⟩) (by simp; done)).trans (by simp [go_sem]); have sy : wr.heap.size < wx.heap.size := (by have q := hbx.size; simp at q; omega))
          refine hK.out _ _ ?_ (fun hHeld => ?_)
          · ((try dsimp only); (repeat' apply And.intro); all_goals ((repeat (first | (with_reducible refine cell_drew ?_) | (with_reducible refine cell_drewN _ ?_) | ((with_reducible refine cell_alloc ?_ ?_); · first | omega | (simp; done) | (simp; omega) | assumption) | ((with_reducible refine cell_set ?_ ?_); · first | (intro e; injection e; omega) | (intro e; simp at e; done) | (intro e; simp at e; omega)))); first | assumption | (simp; done)))
          clear hK K
          (try simp only [Act.put, List.setIfInBounds_toArray, List.set_cons_zero, List.set_cons_succ])
          refine wpAnyH_ready (rs := [8]) (by kernel_rfl) (by simp) ?_
          refine AllReadyH.cons rfl (fun K hK => ?_) AllReadyH.nil
          go_simp
          refine hK.out _ _ ?_ (fun hHeld => ?_)
          · ((try dsimp only); (repeat' apply And.intro); all_goals ((repeat (first | (with_reducible refine cell_drew ?_) | (with_reducible refine cell_drewN _ ?_) | ((with_reducible refine cell_alloc ?_ ?_); · first | omega | (simp; done) | (simp; omega) | assumption) | ((with_reducible refine cell_set ?_ ?_); · first | (intro e; injection e; omega) | (intro e; simp at e; done) | (intro e; simp at e; omega)))); first | assumption | (simp; done)))
          clear hK K
          (try simp only [Act.put, List.setIfInBounds_toArray, List.set_cons_zero, List.set_cons_succ])
          refine wpAnyH_done (by kernel_rfl) ?_ _
          first
            | (obtain ⟨W, hW⟩ : ∃ W, Hid (wx.alloc (.cells #[.int .i64 s0, .int .i64 s1, .int .i64 s2, .int .i64 s3] 52) = W) := ⟨_, rfl⟩
               rw [hW.out]
               have BS := Bx.new wx S
               rw [hs0.out, hs1.out, hs2.out, hs3.out, hW.out] at BS
               have HH := (Bx.below (w := wr.drew) hb.out hbx (Nat.le_refl _)).alloc (.cells #[.int .i64 s0, .int .i64 s1, .int .i64 s2, .int .i64 s3] 52)
               have HT := (Bx.below (w := wr.drew) ht.out hbx (Nat.le_refl _)).alloc (.cells #[.int .i64 s0, .int .i64 s1, .int .i64 s2, .int .i64 s3] 52)
               have HBW : Below w.heap.size w (wx.alloc (.cells #[.int .i64 s0, .int .i64 s1, .int .i64 s2, .int .i64 s3] 52)) := by have hB' := hB.out; (repeat (first | (with_reducible exact Below.refl _ _) | (with_reducible assumption) | (with_reducible refine Below.drew ?_) | ((with_reducible refine balloc ?_ _ ?_); · (first | (simp; done) | (simp; omega) | omega)) | ((with_reducible refine bset ?_ _ ?_); · (first | (simp; done) | (simp; omega) | omega)) | (with_reducible refine bdrewN _ ?_) | ((with_reducible refine bcall ?_ (by assumption) ?_); · (first | (simp; done) | (simp; omega) | omega))))
               rw [hW.out] at HH HT HBW
               obtain ⟨gt, hgt⟩ : ∃ gt, Hid (wx.heap.size = gt) := ⟨_, rfl⟩
               rw [hgt.out] at BS ⊢
               have hgl : w.heap.size + 1 < gt := by rw [← hgt.out]; exact sx)
            | (obtain ⟨W, hW⟩ : ∃ W, Hid ((((wx.setCell ⟨wr.heap.size, 0, none⟩ (.int .i64 s0)).setCell ⟨wr.heap.size, 1, none⟩ (.int .i64 s1)).setCell ⟨wr.heap.size, 2, none⟩ (.int .i64 s2)).setCell ⟨wr.heap.size, 3, none⟩ (.int .i64 s3) = W) := ⟨_, rfl⟩
               rw [hW.out]
               have BS := (Bx.below (w := (wr.alloc (.cells #[.int .i64 0, .int .i64 0, .int .i64 0, .int .i64 0] 52)).drew) (show Bx (wr.alloc (.cells #[.int .i64 0, .int .i64 0, .int .i64 0, .int .i64 0] 52)) wr.heap.size [] from Bx.new wr []) hbx (Nat.le_refl _)).put S
               rw [hs0.out, hs1.out, hs2.out, hs3.out, hW.out] at BS
               have HH := ((((Bx.below (w := (wr.alloc (.cells #[.int .i64 0, .int .i64 0, .int .i64 0, .int .i64 0] 52)).drew) (hb.out.alloc _) hbx (Nat.le_refl _)).other (a := ⟨wr.heap.size, 0, none⟩) (by simp; omega) (.int .i64 s0)).other (a := ⟨wr.heap.size, 1, none⟩) (by simp; omega) (.int .i64 s1)).other (a := ⟨wr.heap.size, 2, none⟩) (by simp; omega) (.int .i64 s2)).other (a := ⟨wr.heap.size, 3, none⟩) (by simp; omega) (.int .i64 s3)
               have HT := ((((Bx.below (w := (wr.alloc (.cells #[.int .i64 0, .int .i64 0, .int .i64 0, .int .i64 0] 52)).drew) (ht.out.alloc _) hbx (Nat.le_refl _)).other (a := ⟨wr.heap.size, 0, none⟩) (by simp; omega) (.int .i64 s0)).other (a := ⟨wr.heap.size, 1, none⟩) (by simp; omega) (.int .i64 s1)).other (a := ⟨wr.heap.size, 2, none⟩) (by simp; omega) (.int .i64 s2)).other (a := ⟨wr.heap.size, 3, none⟩) (by simp; omega) (.int .i64 s3)
               have HBW : Below w.heap.size w ((((wx.setCell ⟨wr.heap.size, 0, none⟩ (.int .i64 s0)).setCell ⟨wr.heap.size, 1, none⟩ (.int .i64 s1)).setCell ⟨wr.heap.size, 2, none⟩ (.int .i64 s2)).setCell ⟨wr.heap.size, 3, none⟩ (.int .i64 s3)) := by have hB' := hB.out; (repeat (first | (with_reducible exact Below.refl _ _) | (with_reducible assumption) | (with_reducible refine Below.drew ?_) | ((with_reducible refine balloc ?_ _ ?_); · (first | (simp; done) | (simp; omega) | omega)) | ((with_reducible refine bset ?_ _ ?_); · (first | (simp; done) | (simp; omega) | omega)) | (with_reducible refine bdrewN _ ?_) | ((with_reducible refine bcall ?_ (by assumption) ?_); · (first | (simp; done) | (simp; omega) | omega))))
               rw [hW.out] at HH HT HBW
               clear y0 y1 y2 y3 g0 g1 g2 g3
               obtain ⟨gt, hgt⟩ : ∃ gt, Hid (wr.heap.size = gt) := ⟨_, rfl⟩
               rw [hgt.out] at BS ⊢
               have hgl : w.heap.size + 1 < gt := by rw [← hgt.out]; exact hsz1)
          clear hHeld d0 d1 d2 d3 d4 hbx c0 c1 c2 c3 p1 hsz1 sx
          have hSl : S.length = m := by rw [← hS.out, length_srt, length_bumpL, hm.out]
          have hil : i < h.length := by rw [hm.out]; exact hlt
          have hbb := bump_bound (i := i) (v := v) HHB.out (by omega) (by omega)
          rw [hS.out] at hbb
          have HVS : Hid (poorV ws S = poorV ws (bumpL h i v)) := by simp only [Hid]; rw [← hS.out]; exact poorV_perm ws (srt_perm _)
          have hTb : ∀ x ∈ T, 0 ≤ x ∧ x ≤ 1000000 := by
            rcases hTr.out with rfl | ⟨j, hj, rfl⟩
            · intro x hx; cases hx
            · intro x hx; have := bump_bound (i := j) (v := v) HHB.out (by omega) (by omega) x hx; omega
          have HEQ := fun wy => eql_arr S T (fun j _ => wf_getD (fun x hx => by have := hbb x hx; omega) j) (fun j _ => wf_getD hTb j) wy
          have e0 := BS.cell (j := 0) (by omega)
          have e1 := BS.cell (j := 1) (by omega)
          have e2 := BS.cell (j := 2) (by omega)
          have e3 := BS.cell (j := 3) (by omega)
          have q0 := HT.cell (j := 0) (by omega)
          have q1 := HT.cell (j := 1) (by omega)
          have q2 := HT.cell (j := 2) (by omega)
          have q3 := HT.cell (j := 3) (by omega)
          have f0 := HT.frozen 0
          have f1 := HT.frozen 1
          have f2 := HT.frozen 2
          have f3 := HT.frozen 3
          have HTS := Lib.hid (fun e => tried_same (T := T) (i := i) hTr.out hil (by rw [hm.out]; exact hh4) (fun x hx => (HHB.out x hx).1) hv.1 e)
          rw [hS.out] at HTS
          have BSH := Lib.hid BS
          have HHH := Lib.hid HH
          have HTH := Lib.hid HT
          have HBWH := Lib.hid HBW
          have HBB := Lib.hid hbb
          have HSL := Lib.hid hSl
          have htl := HT.lt
          have hgl2 := BS.lt
          unfold arr4 at HEQ
          by_cases hsame : S.getD 0 0 = T.getD 0 0 ∧ S.getD 1 0 = T.getD 1 0 ∧ S.getD 2 0 = T.getD 2 0 ∧ S.getD 3 0 = T.getD 3 0
          · obtain ⟨j, hj, hjw⟩ := HTS.out hsame
            have HSK := Lib.hid (hTop.out.skip hj (hjw ws))
            have HTR2 : Hid (Tried h v (i + 1) T) := by
              rcases hTr.out with e | ⟨j, hj, e⟩
              · exact .inl e
              · exact .inr ⟨j, by omega, e⟩
            simp only [decide_eq_true hsame] at HEQ
            rw [hs0.out, hs1.out, hs2.out, hs3.out] at HEQ
            rw [hs0.out] at e0
            rw [hs1.out] at e1
            rw [hs2.out] at e2
            rw [hs3.out] at e3
            generalize T.getD 0 0 = t0 at *
            generalize T.getD 1 0 = t1 at *
            generalize T.getD 2 0 = t2 at *
            generalize T.getD 3 0 = t3 at *
            clear hsame hjw hTb hbb hSl hil BS HH HT HBW HTS
            go_wp2
            (refine ⟨?_, ?measure⟩; (repeat apply Exists.intro); refine ⟨?rel, rfl⟩)
            case rel => exact ⟨i + 1, t, T, by omega, by go_num, rfl, ht0, HSK.out, HHH.out, HTH.out, HTR2.out, HBWH.out⟩
            case measure => simp [intOf]; omega
          · simp only [decide_eq_false hsame] at HEQ
            rw [hs0.out, hs1.out, hs2.out, hs3.out] at HEQ
            have HTK := Lib.hid hTop.out.take
            rw [← HVS.out] at HTK
            have HTR2 : Hid (Tried h v (i + 1) S) := .inr ⟨i, by omega, hS.out.symm⟩
            have hVn : 0 ≤ poorV ws S := poorV_nonneg ws S (fun x hx => (hbb x hx).1)
            have HMS : Hid (minL S = S.getD 0 0) := by simp only [Hid]; rw [← hS.out]; exact minL_sorted (by rw [length_bumpL]; omega)
            have H2H := Lib.hid ((((HH.other (a := ⟨w.heap.size + 1, 0, none⟩) (by simp) (.int .i64 s0)).other (a := ⟨w.heap.size + 1, 1, none⟩) (by simp) (.int .i64 s1)).other (a := ⟨w.heap.size + 1, 2, none⟩) (by simp) (.int .i64 s2)).other (a := ⟨w.heap.size + 1, 3, none⟩) (by simp) (.int .i64 s3))
            have H2S := Lib.hid ((((BS.other (a := ⟨w.heap.size + 1, 0, none⟩) (by simp; omega) (.int .i64 s0)).other (a := ⟨w.heap.size + 1, 1, none⟩) (by simp; omega) (.int .i64 s1)).other (a := ⟨w.heap.size + 1, 2, none⟩) (by simp; omega) (.int .i64 s2)).other (a := ⟨w.heap.size + 1, 3, none⟩) (by simp; omega) (.int .i64 s3))
            have H2T := Lib.hid (HT.put S)
            rw [hs0.out, hs1.out, hs2.out, hs3.out] at H2T
            have H2B := Lib.hid (bset (p := ⟨w.heap.size + 1, 3, none⟩) (by simp) (.int .i64 s3) (bset (p := ⟨w.heap.size + 1, 2, none⟩) (by simp) (.int .i64 s2) (bset (p := ⟨w.heap.size + 1, 1, none⟩) (by simp) (.int .i64 s1) (bset (p := ⟨w.heap.size + 1, 0, none⟩) (by simp) (.int .i64 s0) HBW))))
            obtain ⟨W2, hW2⟩ : ∃ W2, Hid ((((W.setCell ⟨w.heap.size + 1, 0, none⟩ (.int .i64 s0)).setCell ⟨w.heap.size + 1, 1, none⟩ (.int .i64 s1)).setCell ⟨w.heap.size + 1, 2, none⟩ (.int .i64 s2)).setCell ⟨w.heap.size + 1, 3, none⟩ (.int .i64 s3) = W2) := ⟨_, rfl⟩
            rw [hW2.out] at H2H H2S H2T H2B
            have HR2 := Lib.hid (HR.out.later H2B.out (Nat.le_refl _))
            have hgl3 := H2S.out.lt
            rw [hs0.out] at e0
            rw [hs1.out] at e1
            rw [hs2.out] at e2
            rw [hs3.out] at e3
            generalize T.getD 0 0 = t0 at *
            generalize T.getD 1 0 = t1 at *
            generalize T.getD 2 0 = t2 at *
            generalize T.getD 3 0 = t3 at *
            clear hsame hTb hbb hil BS HH HT HBW HTS hTop ht hb hB
            by_cases hc1 : c = 1
            · have hk0 : k = 0 := by omega
              have HREC := Lib.hid (HIH.out S k 0 (some ⟨b, o, none⟩) W2.drew (Rd.tailW (show Rd W2.drew 1 _ _ _ from HR2.out) o (.inl (by omega))) (by omega) (by omega) (by omega) (by omega) (by omega) HMS.out (fun x hx => by have := HBB.out x hx; omega) HZ.out)
              rw [hSl] at HREC
              unfold arr4 at HREC
              rw [hs0.out, hs1.out, hs2.out, hs3.out] at HREC
              generalize poorV ws S = V at *
              clear hSl
              subst hc1 hk0
              go_wp2
              rw [hW2.out]
              have u0 : W2.cell? ⟨gt, 0, none⟩ = some (.int .i64 s0) := by rw [← hs0.out]; exact H2S.out.cell (by omega)
              have u1 : W2.cell? ⟨gt, 1, none⟩ = some (.int .i64 s1) := by rw [← hs1.out]; exact H2S.out.cell (by omega)
              have u2 : W2.cell? ⟨gt, 2, none⟩ = some (.int .i64 s2) := by rw [← hs2.out]; exact H2S.out.cell (by omega)
              have u3 : W2.cell? ⟨gt, 3, none⟩ = some (.int .i64 s3) := by rw [← hs3.out]; exact H2S.out.cell (by omega)
              clear e0 e1 e2 e3 q0 q1 q2 q3 f0 f1 f2 f3
              refine wp_region_held_drew (S := (fun w' => w'.cell? ⟨gt, 0, none⟩ = some (.int .i64 s0) ∧ w'.cell? ⟨gt, 1, none⟩ = some (.int .i64 s1) ∧ w'.cell? ⟨gt, 2, none⟩ = some (.int .i64 s2) ∧ w'.cell? ⟨gt, 3, none⟩ = some (.int .i64 s3))) (by kernel_rfl) ?_ (fun hHeld => ?_)
              · ((try dsimp only); (repeat' apply And.intro); all_goals ((repeat (first | (with_reducible refine cell_drew ?_) | (with_reducible refine cell_drewN _ ?_) | ((with_reducible refine cell_alloc ?_ ?_); · first | omega | (simp; done) | (simp; omega) | assumption) | ((with_reducible refine cell_set ?_ ?_); · first | (intro e; injection e; omega) | (intro e; simp at e; done) | (intro e; simp at e; omega)))); first | assumption | (simp; done)))
              refine reg_on (i := 0) (d := 31) (v := ?rv25) rfl rfl (by kernel_rfl) (by kernel_rfl) (by kernel_rfl) (fun _ _ _ h => h) (by rfl) ?ry25 (by assumption) ?rr25
              case ry25 => (intro wz hSw; (try dsimp only at hSw); go_simp; try with_reducible rfl)
              (try simp only [Act.put, List.setIfInBounds_toArray, List.set_cons_zero, List.set_cons_succ])
              refine reg_on (i := 1) (d := 32) (v := ?rv26) rfl rfl (by kernel_rfl) (by kernel_rfl) (by kernel_rfl) (fun _ _ _ h => h) (by rfl) ?ry26 (by assumption) ?rr26
              case ry26 => (intro wz hSw; (try dsimp only at hSw); go_simp; try with_reducible rfl)
              (try simp only [Act.put, List.setIfInBounds_toArray, List.set_cons_zero, List.set_cons_succ])
              refine reg_on (i := 2) (d := 33) (v := ?rv27) rfl rfl (by kernel_rfl) (by kernel_rfl) (by kernel_rfl) (fun _ _ _ h => h) (by rfl) ?ry27 (by assumption) ?rr27
              case ry27 => (intro wz hSw; (try dsimp only at hSw); go_simp; try with_reducible rfl)
              (try simp only [Act.put, List.setIfInBounds_toArray, List.set_cons_zero, List.set_cons_succ])
              refine reg_on (i := 3) (d := 34) (v := ?rv28) rfl rfl (by kernel_rfl) (by kernel_rfl) (by kernel_rfl) (fun _ _ _ h => h) (by rfl) ?ry28 (by assumption) ?rr28
              case ry28 => (intro wz hSw; (try dsimp only at hSw); go_simp; try with_reducible rfl)
              (try simp only [Act.put, List.setIfInBounds_toArray, List.set_cons_zero, List.set_cons_succ])
              refine reg_on (i := 4) (d := 35) (v := ?rv29) rfl rfl (by kernel_rfl) (by kernel_rfl) (by kernel_rfl) (fun _ _ _ h => h) (by rfl) ?ry29 (by assumption) ?rr29
              case ry29 => (intro wz hSw; (try dsimp only at hSw); go_simp; try with_reducible rfl)
              (try simp only [Act.put, List.setIfInBounds_toArray, List.set_cons_zero, List.set_cons_succ])
              refine wpAnyH_ready (rs := [5]) (by kernel_rfl) (by simp) ?_
              refine AllReadyH.cons rfl (fun K hK => ?_) AllReadyH.nil
              go_simp
              go_at_call 56; refine HREC.out.mono ?_; rintro e w5 ⟨rfl, hb5⟩; have x0 : w5.cell? ⟨gt, 0, none⟩ = some (.int .i64 s0) := (hb5.cell (p := ⟨gt, 0, none⟩) hgl3).trans u0; have x1 : w5.cell? ⟨gt, 1, none⟩ = some (.int .i64 s1) := (hb5.cell (p := ⟨gt, 1, none⟩) hgl3).trans u1; have x2 : w5.cell? ⟨gt, 2, none⟩ = some (.int .i64 s2) := (hb5.cell (p := ⟨gt, 2, none⟩) hgl3).trans u2; have x3 : w5.cell? ⟨gt, 3, none⟩ = some (.int .i64 s3) := (hb5.cell (p := ⟨gt, 3, none⟩) hgl3).trans u3
              refine hK.out _ _ ?_ (fun hHeld => ?_)
              · ((try dsimp only); (repeat' apply And.intro); all_goals ((repeat (first | (with_reducible refine cell_drew ?_) | (with_reducible refine cell_drewN _ ?_) | ((with_reducible refine cell_alloc ?_ ?_); · first | omega | (simp; done) | (simp; omega) | assumption) | ((with_reducible refine cell_set ?_ ?_); · first | (intro e; injection e; omega) | (intro e; simp at e; done) | (intro e; simp at e; omega)))); first | assumption | (simp; done)))
              clear hK K
              (try simp only [Act.put, List.setIfInBounds_toArray, List.set_cons_zero, List.set_cons_succ])
              refine reg_on (i := 6) (d := 37) (v := ?rv31) rfl rfl (by kernel_rfl) (by kernel_rfl) (by kernel_rfl) (fun _ _ _ h => h) (by rfl) ?ry31 (by assumption) ?rr31
              case ry31 => (intro wz hSw; (try dsimp only at hSw); go_simp; try with_reducible rfl)
              (try simp only [Act.put, List.setIfInBounds_toArray, List.set_cons_zero, List.set_cons_succ])
              refine reg_on (i := 7) (d := 7) (v := ?rv32) rfl rfl (by kernel_rfl) (by kernel_rfl) (by kernel_rfl) (fun _ _ _ h => h) (by rfl) ?ry32 (by assumption) ?rr32
              case ry32 => (intro wz hSw; (try dsimp only at hSw); go_simp; try with_reducible rfl)
              (try simp only [Act.put, List.setIfInBounds_toArray, List.set_cons_zero, List.set_cons_succ])
              refine wpAnyH_done (by kernel_rfl) ?_ _
              have F1 := Lib.hid (Bx.below (w := W2.drew) H2H.out hb5 (Nat.le_refl _))
              have F2 := Lib.hid (Bx.below (w := W2.drew) H2T.out hb5 (Nat.le_refl _))
              have F3 := Lib.hid (H2B.out.drew.trans (hb5.mono H2B.out.size))
              clear hb5 hHeld x0 x1 x2 x3 u0 u1 u2 u3
              go_wp2
              (refine ⟨?_, ?measure⟩; (repeat apply Exists.intro); first | refine ⟨?rel, rfl⟩ | (refine ⟨?rel, ?eqs⟩; case eqs => (repeat' apply And.intro) <;> rfl))
              case rel => exact ⟨i + 1, max t V, S, by omega, by go_num, rfl, by omega, HTK.out, F1.out, F2.out, HTR2.out, F3.out⟩
              case measure => simp [intOf]; omega
            · have h1k : ((1 : Int) ≤ (k : Int) + 1) = True := by simp; omega
              have HREC := Lib.hid (HIH.out S k (c - 1) (some ⟨b, o + 1, none⟩) W2.drew (Rd.tailW (show Rd W2.drew 1 _ _ _ from HR2.out) (o + 1) (.inr rfl)) (by omega) (by omega) (by omega) (by omega) (by omega) HMS.out (fun x hx => by have := HBB.out x hx; omega) HZ.out)
              rw [hSl] at HREC
              unfold arr4 at HREC
              rw [hs0.out, hs1.out, hs2.out, hs3.out] at HREC
              generalize poorV ws S = V at *
              clear hSl
              go_wp2
              rw [hW2.out]
              have u0 : W2.cell? ⟨gt, 0, none⟩ = some (.int .i64 s0) := by rw [← hs0.out]; exact H2S.out.cell (by omega)
              have u1 : W2.cell? ⟨gt, 1, none⟩ = some (.int .i64 s1) := by rw [← hs1.out]; exact H2S.out.cell (by omega)
              have u2 : W2.cell? ⟨gt, 2, none⟩ = some (.int .i64 s2) := by rw [← hs2.out]; exact H2S.out.cell (by omega)
              have u3 : W2.cell? ⟨gt, 3, none⟩ = some (.int .i64 s3) := by rw [← hs3.out]; exact H2S.out.cell (by omega)
              clear e0 e1 e2 e3 q0 q1 q2 q3 f0 f1 f2 f3
              refine wp_region_held_drew (S := (fun w' => w'.cell? ⟨gt, 0, none⟩ = some (.int .i64 s0) ∧ w'.cell? ⟨gt, 1, none⟩ = some (.int .i64 s1) ∧ w'.cell? ⟨gt, 2, none⟩ = some (.int .i64 s2) ∧ w'.cell? ⟨gt, 3, none⟩ = some (.int .i64 s3))) (by kernel_rfl) ?_ (fun hHeld => ?_)
              · ((try dsimp only); (repeat' apply And.intro); all_goals ((repeat (first | (with_reducible refine cell_drew ?_) | (with_reducible refine cell_drewN _ ?_) | ((with_reducible refine cell_alloc ?_ ?_); · first | omega | (simp; done) | (simp; omega) | assumption) | ((with_reducible refine cell_set ?_ ?_); · first | (intro e; injection e; omega) | (intro e; simp at e; done) | (intro e; simp at e; omega)))); first | assumption | (simp; done)))
              refine reg_on (i := 0) (d := 31) (v := ?rv33) rfl rfl (by kernel_rfl) (by kernel_rfl) (by kernel_rfl) (fun _ _ _ h => h) (by rfl) ?ry33 (by assumption) ?rr33
              case ry33 => (intro wz hSw; (try dsimp only at hSw); go_simp; try with_reducible rfl)
              (try simp only [Act.put, List.setIfInBounds_toArray, List.set_cons_zero, List.set_cons_succ])
              refine reg_on (i := 1) (d := 32) (v := ?rv34) rfl rfl (by kernel_rfl) (by kernel_rfl) (by kernel_rfl) (fun _ _ _ h => h) (by rfl) ?ry34 (by assumption) ?rr34
              case ry34 => (intro wz hSw; (try dsimp only at hSw); go_simp; try with_reducible rfl)
              (try simp only [Act.put, List.setIfInBounds_toArray, List.set_cons_zero, List.set_cons_succ])
              refine reg_on (i := 2) (d := 33) (v := ?rv35) rfl rfl (by kernel_rfl) (by kernel_rfl) (by kernel_rfl) (fun _ _ _ h => h) (by rfl) ?ry35 (by assumption) ?rr35
              case ry35 => (intro wz hSw; (try dsimp only at hSw); go_simp; try with_reducible rfl)
              (try simp only [Act.put, List.setIfInBounds_toArray, List.set_cons_zero, List.set_cons_succ])
              refine reg_on (i := 3) (d := 34) (v := ?rv36) rfl rfl (by kernel_rfl) (by kernel_rfl) (by kernel_rfl) (fun _ _ _ h => h) (by rfl) ?ry36 (by assumption) ?rr36
              case ry36 => (intro wz hSw; (try dsimp only at hSw); go_simp; try with_reducible rfl)
              (try simp only [Act.put, List.setIfInBounds_toArray, List.set_cons_zero, List.set_cons_succ])
              refine reg_on (i := 4) (d := 35) (v := ?rv37) rfl rfl (by kernel_rfl) (by kernel_rfl) (by kernel_rfl) (fun _ _ _ h => h) (by rfl) ?ry37 (by assumption) ?rr37
              case ry37 => (intro wz hSw; (try dsimp only at hSw); go_simp; try with_reducible rfl)
              (try simp only [Act.put, List.setIfInBounds_toArray, List.set_cons_zero, List.set_cons_succ])
              refine wpAnyH_ready (rs := [5]) (by kernel_rfl) (by simp) ?_
              refine AllReadyH.cons rfl (fun K hK => ?_) AllReadyH.nil
              go_simp
              go_at_call 56; refine HREC.out.mono ?_; rintro e w5 ⟨rfl, hb5⟩; have x0 : w5.cell? ⟨gt, 0, none⟩ = some (.int .i64 s0) := (hb5.cell (p := ⟨gt, 0, none⟩) hgl3).trans u0; have x1 : w5.cell? ⟨gt, 1, none⟩ = some (.int .i64 s1) := (hb5.cell (p := ⟨gt, 1, none⟩) hgl3).trans u1; have x2 : w5.cell? ⟨gt, 2, none⟩ = some (.int .i64 s2) := (hb5.cell (p := ⟨gt, 2, none⟩) hgl3).trans u2; have x3 : w5.cell? ⟨gt, 3, none⟩ = some (.int .i64 s3) := (hb5.cell (p := ⟨gt, 3, none⟩) hgl3).trans u3
              refine hK.out _ _ ?_ (fun hHeld => ?_)
              · ((try dsimp only); (repeat' apply And.intro); all_goals ((repeat (first | (with_reducible refine cell_drew ?_) | (with_reducible refine cell_drewN _ ?_) | ((with_reducible refine cell_alloc ?_ ?_); · first | omega | (simp; done) | (simp; omega) | assumption) | ((with_reducible refine cell_set ?_ ?_); · first | (intro e; injection e; omega) | (intro e; simp at e; done) | (intro e; simp at e; omega)))); first | assumption | (simp; done)))
              clear hK K
              (try simp only [Act.put, List.setIfInBounds_toArray, List.set_cons_zero, List.set_cons_succ])
              refine reg_on (i := 6) (d := 37) (v := ?rv39) rfl rfl (by kernel_rfl) (by kernel_rfl) (by kernel_rfl) (fun _ _ _ h => h) (by rfl) ?ry39 (by assumption) ?rr39
              case ry39 => (intro wz hSw; (try dsimp only at hSw); go_simp; try with_reducible rfl)
              (try simp only [Act.put, List.setIfInBounds_toArray, List.set_cons_zero, List.set_cons_succ])
              refine reg_on (i := 7) (d := 7) (v := ?rv40) rfl rfl (by kernel_rfl) (by kernel_rfl) (by kernel_rfl) (fun _ _ _ h => h) (by rfl) ?ry40 (by assumption) ?rr40
              case ry40 => (intro wz hSw; (try dsimp only at hSw); go_simp; try with_reducible rfl)
              (try simp only [Act.put, List.setIfInBounds_toArray, List.set_cons_zero, List.set_cons_succ])
              refine wpAnyH_done (by kernel_rfl) ?_ _
              have F1 := Lib.hid (Bx.below (w := W2.drew) H2H.out hb5 (Nat.le_refl _))
              have F2 := Lib.hid (Bx.below (w := W2.drew) H2T.out hb5 (Nat.le_refl _))
              have F3 := Lib.hid (H2B.out.drew.trans (hb5.mono H2B.out.size))
              clear hb5 hHeld x0 x1 x2 x3 u0 u1 u2 u3
              go_wp2
              (refine ⟨?_, ?measure⟩; (repeat apply Exists.intro); first | refine ⟨?rel, rfl⟩ | (refine ⟨?rel, ?eqs⟩; case eqs => (repeat' apply And.intro) <;> rfl))
              case rel => exact ⟨i + 1, max t V, S, by omega, by go_num, rfl, by omega, HTK.out, F1.out, F2.out, HTR2.out, F3.out⟩
              case measure => simp [intOf]; omega
      · have him : i = m := by omega
        subst him
        have HE : Hid (t = R) := by
          have h1 := hTop.out
          rw [← hm.out] at h1
          rw [← hR.out]
          exact h1.done (by rw [hm.out]; exact hh1) (fun x hx => (HHB.out x hx).1) (by omega)
        clear hTop
        go_wp2
        go_ret
        exact ⟨ret_int HE.out, hB.out⟩
end Go.Proofs.Ytkijcpbjjbhnhaa
