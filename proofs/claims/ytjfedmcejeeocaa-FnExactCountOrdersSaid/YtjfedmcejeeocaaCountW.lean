/-
  Contract: the program's countWays, orders not told; CountTrees of the program.
-/
import Derived.Test.YtjfedmcejeeocaaWays
namespace Go.Proofs.Ytjfedmcejeeocaa
open Go.RowKit Go.Maps
set_option linter.unusedVariables false

theorem waysOf_no (b n x y : Nat) (M : Nat → Nat → Int) (w : World) (hM : MapAt w b n M) (hx1 : 1 ≤ x) (hx : x ≤ 12) (hy1 : 1 ≤ y) (hy : y ≤ 12) (hG : GoodM M x y) :
    Calls Try.prog 44 #[bar2 x y, .map (some b), .bool false] w fun e w' => e = .returned (.int .i64 (stepV M x y)) ∧ Below w.heap.size w w' := by
  by_cases h : x = 1 ∧ y = 1
  · obtain ⟨rfl, rfl⟩ := h
    exact waysOf_one b n M w
  · exact waysOf_more b n x y M w hM hx1 hx hy1 hy h hG

/-- the bars that come before p, q are counted -/
structure Done (M : Nat → Nat → Int) (Y p q : Nat) : Prop where
  all : ∀ a b, 1 ≤ a → 1 ≤ b → (a < p ∧ b ≤ Y ∨ a = p ∧ b < q) → M a b = stepV M a b ∧ InR (M a b)
theorem Done.start (M : Nat → Nat → Int) (Y : Nat) : Done M Y 1 1 := ⟨fun a b h1 h2 h => by omega⟩
theorem Done.row {M : Nat → Nat → Int} {Y p : Nat} (h : Done M Y p (Y + 1)) : Done M Y (p + 1) 1 := ⟨fun a b h1 h2 h3 => h.all a b h1 h2 (by omega)⟩
theorem Done.good {M : Nat → Nat → Int} {Y p q : Nat} (h : Done M Y p q) (hq : q ≤ Y) : GoodM M p q := fun a b h1 h2 h3 h4 h5 => (h.all a b h1 h3 (by omega)).2
theorem Done.solves {M : Nat → Nat → Int} {X Y : Nat} (h : Done M Y (X + 1) 1) : Rec M X Y := fun x y h1 h2 h3 h4 => (h.all x y h1 h3 (by omega)).1
theorem Done.put {M : Nat → Nat → Int} {Y p q : Nat} (h : Done M Y p q) (hp : 1 ≤ p) (hq1 : 1 ≤ q) (hq : q ≤ Y) : Done (upd M p q (stepV M p q)) Y p (q + 1) := by
  have hcongr : ∀ a b, 1 ≤ a → 1 ≤ b → (a < p ∧ b ≤ Y ∨ a = p ∧ b ≤ q) → stepV (upd M p q (stepV M p q)) a b = stepV M a b := fun a b ha hb hab =>
    stepV_congr ha hb (fun a' h1 h2 => upd_other (by omega)) (fun b' h1 h2 => upd_other (by omega))
  refine ⟨fun a b h1 h2 h3 => ?_⟩
  by_cases e : a = p ∧ b = q
  · obtain ⟨rfl, rfl⟩ := e
    rw [upd_same, hcongr a b h1 h2 (by omega)]
    exact ⟨rfl, stepV_in (h.good hq) h1 h2⟩
  · rw [upd_other e, hcongr a b h1 h2 (by omega)]
    exact h.all a b h1 h2 (by omega)

def okC (v : Int) : Value := if 1000000000000000 < v then .tuple #[.int .i64 0, .bool false] else .tuple #[.int .i64 v, .bool true]

set_option maxRecDepth 100000 in
set_option maxHeartbeats 4000000 in
theorem countWays_no (X Y : Nat) (w : World) (hX1 : 1 ≤ X) (hX : X ≤ 12) (hY1 : 1 ≤ Y) (hY : Y ≤ 12) :
    Calls Try.prog 31 #[bar2 X Y, .bool false] w fun e w' => ∃ M, Rec M X Y ∧ e = .returned (okC (M X Y)) ∧ Below w.heap.size w w' := by
  have hmm := @run_makeMap Try.prog
  have hB : barB X Y = true := by simp [barB]; omega
  go_enter Try.func31, Try.ntmps31
  go_wp2_with fail
  refine (isBar_any _ _ _).mono ?_; rintro e w1 ⟨rfl, hb1⟩; have s1 := hb1.size; obtain ⟨hc1, hf1⟩ := bcell hb1; have z1_w0 : w.heap.size < w1.heap.size := (by have q := s1; first | omega | (simp at q; omega))
  have c0 : w1.cell? ⟨w.heap.size, 0, none⟩ = some (.int .i64 X) := by rw [hc1 _ _ (by simp)]; simp [go_sem]
  have c1 : w1.cell? ⟨w.heap.size, 1, none⟩ = some (.int .i64 Y) := by rw [hc1 _ _ (by simp)]; simp [go_sem]
  have bw1 : Below w.heap.size w w1 := by (repeat (first | (with_reducible exact Below.refl _ _) | (with_reducible assumption) | (with_reducible refine Below.drew ?_) | ((with_reducible refine balloc ?_ _ ?_); · (first | (simp; done) | (simp; omega) | omega)) | ((with_reducible refine bset ?_ _ ?_); · (first | (simp; done) | (simp; omega) | omega)) | (with_reducible refine bdrewN _ ?_) | ((with_reducible refine bcall ?_ (by assumption) ?_); · (first | (simp; done) | (simp; omega) | omega))))
  have C0 := Lib.hid c0
  have C1 := Lib.hid c1
  have BW1 := Lib.hid bw1
  have s1b := bw1.size
  have hmade := MapAt.made w1 (fun _ _ => 0) (fun _ _ => rfl)
  have HMADE := Lib.hid hmade
  have hBm : Below (w1.heap.size + 1) (w1.alloc (.map #[] 0)) (w1.alloc (.map #[] 0)) := Below.refl _ _
  clear hc1 hf1 hb1 c0 c1 bw1 hmade
  go_wp2
  go_loopw [7] (fun i wr => ∃ (p n : Nat) (M : Nat → Nat → Int), 1 ≤ p ∧ p ≤ X + 1 ∧ i = .int .i64 p ∧ n ≤ 12 * p ∧ MapAt wr w1.heap.size n M ∧ Done M Y p 1 ∧ Below w1.heap.size w1 wr) (fun i _ => X + 1 - (intOf i).toNat)
  case atStart => exact ⟨1, 0, _, by omega, by omega, rfl, by omega, HMADE.out, Done.start _ _, by (repeat (first | (with_reducible exact Below.refl _ _) | (with_reducible assumption) | (with_reducible refine Below.drew ?_) | ((with_reducible refine balloc ?_ _ ?_); · (first | (simp; done) | (simp; omega) | omega)) | ((with_reducible refine bset ?_ _ ?_); · (first | (simp; done) | (simp; omega) | omega)) | (with_reducible refine bdrewN _ ?_) | ((with_reducible refine bcall ?_ (by assumption) ?_); · (first | (simp; done) | (simp; omega) | omega))))⟩
  case round =>
    clear HMADE hBm
    obtain ⟨p, n, M, hp1, hpX, rfl, hn, hM, hD, hBl⟩ := hrel
    have e0 := (hBl.cell (p := ⟨w.heap.size, 0, none⟩) (by show w.heap.size < w1.heap.size; omega)).trans C0.out
    have e1 := (hBl.cell (p := ⟨w.heap.size, 1, none⟩) (by show w.heap.size < w1.heap.size; omega)).trans C1.out
    by_cases hlt : p ≤ X
    · have hlti : (p : Int) ≤ (X : Int) := by omega
      have HM := Lib.hid hM
      have HD := Lib.hid hD
      have HBl := Lib.hid hBl
      clear hM hD hBl
      go_wp2
      clear e0 e1
      go_loopw [8] (fun i wr => ∃ (q n : Nat) (M : Nat → Nat → Int), 1 ≤ q ∧ q ≤ Y + 1 ∧ i = .int .i64 q ∧ n + 1 ≤ 12 * p + q ∧ MapAt wr w1.heap.size n M ∧ Done M Y p q ∧ Below w1.heap.size w1 wr) (fun i _ => Y + 1 - (intOf i).toNat)
      case atStart => exact ⟨1, n, M, by omega, by omega, rfl, by omega, HM.out, HD.out, HBl.out⟩
      case round =>
        clear HM HD HBl hn
        obtain ⟨q, n, M, hq1, hqY, rfl, hn, hM, hD, hBl⟩ := hrel
        have e0 := (hBl.cell (p := ⟨w.heap.size, 0, none⟩) (by show w.heap.size < w1.heap.size; omega)).trans C0.out
        have e1 := (hBl.cell (p := ⟨w.heap.size, 1, none⟩) (by show w.heap.size < w1.heap.size; omega)).trans C1.out
        by_cases hlq : q ≤ Y
        · have hlqi : (q : Int) ≤ (Y : Int) := by omega
          have sB := hBl.size
          have hbm := hM.lt
          have hMA := hM.alloc (.cells #[.int .i64 p, .int .i64 q] 27)
          have hG := hD.good hlq
          have hin := stepV_in hG hp1 hq1
          have HDP := Lib.hid (hD.put hp1 hq1 hlq)
          have HWO := Lib.hid (fun (wx : World) hm => waysOf_no w1.heap.size n p q M wx hm hp1 (by omega) hq1 (by omega) hG)
          have bA := hBl.alloc sB (.cells #[.int .i64 p, .int .i64 q] 27)
          have d0 : (wr.alloc (.cells #[.int .i64 p, .int .i64 q] 27)).cell? ⟨wr.heap.size, 0, none⟩ = some (.int .i64 p) := by simp [go_sem]
          have d1 : (wr.alloc (.cells #[.int .i64 p, .int .i64 q] 27)).cell? ⟨wr.heap.size, 1, none⟩ = some (.int .i64 q) := by simp [go_sem]
          have szA : (wr.alloc (.cells #[.int .i64 p, .int .i64 q] 27)).heap.size = wr.heap.size + 1 := by simp
          generalize stepV M p q = v at *
          have hvw : (Lit.int .i64 v).wf = true := WalkArith.wf_i64 ⟨by have := hin.1; omega, by have := hin.2; omega⟩
          have hn1 : n ≤ 100000 := by omega
          have hp100 : p ≤ 100 := by omega
          have hq100 : q ≤ 100 := by omega
          have HMA := Lib.hid hMA
          have HVW := Lib.hid hvw
          have BA := Lib.hid bA
          clear hM hD hBl hG hin hMA bA hvw
          go_wp2
          clear e0 e1
          generalize wr.alloc (.cells #[.int .i64 p, .int .i64 q] 27) = wA at *
          have hltA : wr.heap.size < wA.heap.size := by omega
          refine wp_region_held_drew (S := (fun w' => w'.cell? ⟨wr.heap.size, 0, none⟩ = some (.int .i64 p) ∧ w'.cell? ⟨wr.heap.size, 1, none⟩ = some (.int .i64 q))) (by kernel_rfl) ?_ (fun hHeld => ?_)
          · ((try dsimp only); (repeat' apply And.intro); all_goals ((repeat (first | (with_reducible refine cell_drew ?_) | (with_reducible refine cell_drewN _ ?_) | ((with_reducible refine cell_alloc ?_ ?_); · first | omega | (simp; done) | (simp; omega) | assumption) | ((with_reducible refine cell_set ?_ ?_); · first | (intro e; injection e; omega) | (intro e; simp at e; done) | (intro e; simp at e; omega)))); first | assumption | (simp; done)))
          refine reg_on (i := 0) (d := 29) (v := ?rv1) rfl rfl (by kernel_rfl) (by kernel_rfl) (by kernel_rfl) (fun _ _ _ h => h) (by rfl) ?ry1 (by assumption) ?rr1
          case ry1 => (intro wz hSw; (try dsimp only at hSw); go_simp; try with_reducible rfl)
          (try simp only [Act.put, List.setIfInBounds_toArray, List.set_cons_zero, List.set_cons_succ])
          refine reg_on (i := 1) (d := 30) (v := ?rv2) rfl rfl (by kernel_rfl) (by kernel_rfl) (by kernel_rfl) (fun _ _ _ h => h) (by rfl) ?ry2 (by assumption) ?rr2
          case ry2 => (intro wz hSw; (try dsimp only at hSw); go_simp; try with_reducible rfl)
          (try simp only [Act.put, List.setIfInBounds_toArray, List.set_cons_zero, List.set_cons_succ])
          refine reg_on (i := 2) (d := 31) (v := ?rv3) rfl rfl (by kernel_rfl) (by kernel_rfl) (by kernel_rfl) (fun _ _ _ h => h) (by rfl) ?ry3 (by assumption) ?rr3
          case ry3 => (intro wz hSw; (try dsimp only at hSw); go_simp; try with_reducible rfl)
          (try simp only [Act.put, List.setIfInBounds_toArray, List.set_cons_zero, List.set_cons_succ])
          refine reg_on (i := 3) (d := 32) (v := ?rv4) rfl rfl (by kernel_rfl) (by kernel_rfl) (by kernel_rfl) (fun _ _ _ h => h) (by rfl) ?ry4 (by assumption) ?rr4
          case ry4 => (intro wz hSw; (try dsimp only at hSw); go_simp; try with_reducible rfl)
          (try simp only [Act.put, List.setIfInBounds_toArray, List.set_cons_zero, List.set_cons_succ])
          refine reg_on (i := 4) (d := 33) (v := ?rv5) rfl rfl (by kernel_rfl) (by kernel_rfl) (by kernel_rfl) (fun _ _ _ h => h) (by rfl) ?ry5 (by assumption) ?rr5
          case ry5 => (intro wz hSw; (try dsimp only at hSw); go_simp; try with_reducible rfl)
          (try simp only [Act.put, List.setIfInBounds_toArray, List.set_cons_zero, List.set_cons_succ])
          refine wpAnyH_ready (rs := [5]) (by kernel_rfl) (by simp) ?_
          refine AllReadyH.cons rfl (fun K hK => ?_) AllReadyH.nil
          go_simp
          go_at_call 44; refine (HWO.out _ (by exact HMA.out.drew)).mono ?_; rintro e w7 ⟨rfl, hb7⟩; have s7 := hb7.size; (try simp at s7); have hM7 : MapAt w7 w1.heap.size n M := HMA.out.drew.below hb7 (by first | (simp; omega) | omega); obtain ⟨w8, hrun8, hM8, hg8⟩ := hM7.put hn1 hp100 hq100 v HVW.out; have f0 : w7.cell? ⟨wr.heap.size, 0, none⟩ = some (.int .i64 p) := (hb7.cell (p := ⟨wr.heap.size, 0, none⟩) (by first | (simp; done) | (simp; omega) | omega)).trans (by first | assumption | (go_split_ands; assumption)); have f1 : w7.cell? ⟨wr.heap.size, 1, none⟩ = some (.int .i64 q) := (hb7.cell (p := ⟨wr.heap.size, 1, none⟩) (by first | (simp; done) | (simp; omega) | omega)).trans (by first | assumption | (go_split_ands; assumption)); have hne8 : some wr.heap.size ≠ some w1.heap.size := (by simp; omega); have f2 := hg8.cell (a := ⟨wr.heap.size, 0, none⟩) f0 hne8; have f3 := hg8.cell (a := ⟨wr.heap.size, 1, none⟩) f1 hne8
          refine hK.out _ _ ?_ (fun hHeld => ?_)
          · ((try dsimp only); (repeat' apply And.intro); all_goals ((repeat (first | (with_reducible refine cell_drew ?_) | (with_reducible refine cell_drewN _ ?_) | ((with_reducible refine cell_alloc ?_ ?_); · first | omega | (simp; done) | (simp; omega) | assumption) | ((with_reducible refine cell_set ?_ ?_); · first | (intro e; injection e; omega) | (intro e; simp at e; done) | (intro e; simp at e; omega)))); first | assumption | (simp; done)))
          clear hK K
          (try simp only [Act.put, List.setIfInBounds_toArray, List.set_cons_zero, List.set_cons_succ])
          refine wpAnyH_ready (rs := [6]) (by kernel_rfl) (by simp) ?_
          refine AllReadyH.cons rfl (fun K hK => ?_) AllReadyH.nil
          go_simp
          refine hK.out _ _ ?_ (fun hHeld => ?_)
          · ((try dsimp only); (repeat' apply And.intro); all_goals ((repeat (first | (with_reducible refine cell_drew ?_) | (with_reducible refine cell_drewN _ ?_) | ((with_reducible refine cell_alloc ?_ ?_); · first | omega | (simp; done) | (simp; omega) | assumption) | ((with_reducible refine cell_set ?_ ?_); · first | (intro e; injection e; omega) | (intro e; simp at e; done) | (intro e; simp at e; omega)))); first | assumption | (simp; done)))
          clear hK K
          (try simp only [Act.put, List.setIfInBounds_toArray, List.set_cons_zero, List.set_cons_succ])
          refine wpAnyH_done (by kernel_rfl) ?_ _
          have b8 : Below w1.heap.size w1 w8 := (BA.out.drew.trans (hb7.mono (by simp; omega))).grown hg8 (by omega) (fun k hk => by have : w1.heap.size = k := (by simpa using hk); omega)
          have HM8 := Lib.hid hM8
          have B8 := Lib.hid b8
          clear hM7 hrun8 hM8 hg8 hb7 f0 f1 f2 f3 hne8 b8 d0 d1 HWO
          go_wp2
          go_roundw
          case rel => exact ⟨q + 1, n + 1, _, by omega, by omega, by go_num, by omega, HM8.out, HDP.out, B8.out⟩
          case measure => simp [intOf]; omega
        · have hqe : q = Y + 1 := by omega
          subst hqe
          have hnle : decide (((Y + 1 : Nat) : Int) ≤ (Y : Int)) = false := by simp; omega
          have HM := Lib.hid hM
          have HD := Lib.hid hD.row
          have HBl := Lib.hid hBl
          clear hM hD hBl
          go_wp2
          go_roundw
          case rel => exact ⟨p + 1, n, M, by omega, by omega, by go_num, by omega, HM.out, HD.out, HBl.out⟩
          case measure => simp [intOf]; omega
    · have hpe : p = X + 1 := by omega
      subst hpe
      have hrec := hD.solves
      have hlook := hM.look (x := X) (y := Y) (by omega) (by omega)
      have HRC := Lib.hid hrec
      have HBl := Lib.hid hBl
      generalize hv : M X Y = v at *
      have HV := Lib.hid hv
      clear hM hD hBl hv hrec
      by_cases hgt : 1000000000000000 < v
      · have hgt' : decide ((1000000000000000 : Int) < v) = true := decide_eq_true hgt
        have hk : okC v = .tuple #[.int .i64 0, .bool false] := if_pos hgt
        go_wp2
        go_ret2
        exact ⟨M, HRC.out, by rw [HV.out, hk]; rfl, BW1.out.trans (HBl.out.mono s1b)⟩
      · have hgt' : decide ((1000000000000000 : Int) < v) = false := decide_eq_false hgt
        have hk : okC v = .tuple #[.int .i64 v, .bool true] := if_neg hgt
        go_wp2
        go_ret2
        exact ⟨M, HRC.out, by rw [HV.out, hk]; rfl, BW1.out.trans (HBl.out.mono s1b)⟩

end Go.Proofs.Ytjfedmcejeeocaa
