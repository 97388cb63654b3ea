/-
  Contract: the costs of a bar and of all bars that can be broken from it (the program).
-/
import Derived.Test.YtobncknlipeinaaLeast
namespace Go.Proofs.Ytobncknlipeinaa
open Go.RowKit Go.Maps
set_option linter.unusedVariables false
set_option linter.unusedSimpArgs false

def truncE (f : Nat → Int) : Nat → Int := fun k => if k < 145 then f k else 0
theorem truncE_at {f : Nat → Int} {k : Nat} (h : k < 145) : truncE f k = f k := if_pos h
theorem arrE_trunc (f : Nat → Int) : arrE (truncE f) = arrE f := arrE_congr fun k hk => truncE_at hk
theorem LeastE.trunc {all : Nat} {S : Nat → Int → Prop} {f : Nat → Int} (h : LeastE all S f) (ha : all ≤ 144) : LeastE all S (truncE f) ∧ ∀ k, 0 ≤ truncE f k ∧ truncE f k ≤ 20736 := by
  refine ⟨⟨by rw [truncE_at (by omega)]; exact h.1, by rw [truncE_at (by omega)]; exact h.2.1, fun s h1 h2 => by rw [truncE_at (by omega)]; exact h.2.2.1 s h1 h2, fun s hs => by rw [truncE_at hs]; exact h.2.2.2 s hs⟩, fun k => ?_⟩
  by_cases hk : k < 145
  · rw [truncE_at hk]; exact h.2.2.2 k hk
  · unfold truncE; rw [if_neg hk]; omega
theorem candH_congr {M N : E3} {a b s : Nat} (h1 : ∀ a' k, 1 ≤ a' → a' < a → k ≤ a' * b → M a' b k = N a' b k) (h2 : ∀ b' k, 1 ≤ b' → b' < b → k ≤ a * b' → M a b' k = N a b' k) (x : Int) : CandH M a b s x ↔ CandH N a b s x := by
  rw [← cand_half, ← cand_half]
  exact cand_congr h1 h2 x
/-- the lying bars that come before p, q have their costs -/
structure DoneE (M : C3) (Y p q : Nat) : Prop where
  bound : ∀ a b k, 0 ≤ M a b k ∧ M a b k ≤ 20736
  all : ∀ a b, b ≤ a → 1 ≤ b → b ≤ Y → (a < p ∨ a = p ∧ b < q) → LeastE (a * b) (fun s x => CandH (lyN M) a b s x) (M a b)
theorem DoneE.start (Y : Nat) : DoneE (fun _ _ _ => 0) Y 1 1 := ⟨fun _ _ _ => by omega, fun a b h1 h2 h3 h4 => by omega⟩
theorem DoneE.row {M : C3} {Y p q : Nat} (h : DoneE M Y p q) (hq : min p Y < q) : DoneE M Y (p + 1) 1 := ⟨h.bound, fun a b h1 h2 h3 h4 => h.all a b h1 h2 h3 (by omega)⟩
theorem DoneE.put {M : C3} {Y p q : Nat} {f : Nat → Int} (h : DoneE M Y p q) (hf : LeastE (p * q) (fun s x => CandH (lyN M) p q s x) f) (hb : ∀ k, 0 ≤ f k ∧ f k ≤ 20736) : DoneE (updE M p q f) Y p (q + 1) := by
  have other : ∀ a b c d, b ≤ a → 1 ≤ b → (a < p ∨ a = p ∧ b ≤ q) → c ≤ a → d ≤ b → (c < a ∨ d < b) → ∀ k, lyN (updE M p q f) c d k = lyN M c d k := fun a b c d h1 h2 h3 h4 h5 h6 k => by
    unfold lyN
    rw [updE_other (by omega)]
  have hc : ∀ a b s x, b ≤ a → 1 ≤ b → (a < p ∨ a = p ∧ b ≤ q) → (CandH (lyN (updE M p q f)) a b s x ↔ CandH (lyN M) a b s x) := fun a b s x h1 h2 h3 =>
    candH_congr (fun a' k _ h5 _ => other a b a' b h1 h2 h3 (by omega) (by omega) (by omega) k) (fun b' k _ h5 _ => other a b a b' h1 h2 h3 (by omega) (by omega) (by omega) k) x
  refine ⟨fun a b k => ?_, fun a b h1 h2 h3 h4 => ?_⟩
  · by_cases e : a = p ∧ b = q
    · obtain ⟨rfl, rfl⟩ := e
      rw [updE_same]; exact hb k
    · rw [updE_other e]; exact h.bound a b k
  · by_cases e : a = p ∧ b = q
    · obtain ⟨rfl, rfl⟩ := e
      rw [updE_same]
      exact hf.congr fun s x _ _ => (hc a b s x h1 h2 (by omega)).symm
    · rw [updE_other e]
      exact (h.all a b h1 h2 h3 (by omega)).congr fun s x _ _ => (hc a b s x h1 h2 (by omega)).symm
theorem DoneE.solves {M : C3} {X Y : Nat} (h : DoneE M Y (X + 1) 1) : RecN M X Y :=
  ⟨fun a b h1 h2 h3 h4 => ⟨(h.all a b h1 h3 h4 (by omega)).1, (h.all a b h1 h3 h4 (by omega)).2.1⟩, fun a b s h1 h2 h3 h4 h5 h6 => (h.all a b h1 h3 h4 (by omega)).2.2.1 s h5 h6⟩

set_option maxRecDepth 100000 in
set_option maxHeartbeats 4000000 in
theorem costsToEat_any (x y : Nat) (w : World) (hx1 : 1 ≤ x) (hx2 : x ≤ 12) (hy1 : 1 ≤ y) (hy2 : y ≤ 12) :
    Calls Try.prog 27 #[bar2 x y] w fun e w' => ∃ (M : C3) (mb : Nat), e = .returned (.map (some mb)) ∧ (∃ n, MapE w' mb n M) ∧ RecN M (max x y) (min x y) ∧ (∀ a b k, 0 ≤ M a b k ∧ M a b k ≤ 20736) ∧ w.heap.size ≤ mb ∧ Below w.heap.size w w' := by
  have hmm := @run_makeMap Try.prog
  obtain ⟨X, hX⟩ : ∃ X, X = max x y := ⟨_, rfl⟩
  obtain ⟨Y, hY⟩ : ∃ Y, Y = min x y := ⟨_, rfl⟩
  have hly := fun wx => lying_any (x : Int) (y : Int) wx
  rw [show max (x : Int) (y : Int) = (X : Int) by omega, show min (x : Int) (y : Int) = (Y : Int) by omega] at hly
  have HLY := Lib.hid hly
  rw [← hX, ← hY]
  have hX1 : 1 ≤ X := by omega
  have hX2 : X ≤ 12 := by omega
  have hY1 : 1 ≤ Y := by omega
  have hY2 : Y ≤ 12 := by omega
  clear hly hX hY
  go_enter Try.func27, Try.ntmps27
  go_wp2_with fail
  refine (HLY.out _).mono ?_; rintro e w1 ⟨rfl, hb1⟩; have s1 := hb1.size; obtain ⟨hc1, hf1⟩ := bcell hb1; have z1_w0 : w.heap.size < w1.heap.size := (by have q := s1; first | omega | (simp at q; omega))
  have bw1 : Below w.heap.size w w1 := by (repeat (first | (with_reducible exact Below.refl _ _) | (with_reducible assumption) | (with_reducible refine Below.drew ?_) | ((with_reducible refine balloc ?_ _ ?_); · (first | (simp; done) | (simp; omega) | omega)) | ((with_reducible refine bset ?_ _ ?_); · (first | (simp; done) | (simp; omega) | omega)) | (with_reducible refine bdrewN _ ?_) | ((with_reducible refine bcall ?_ (by assumption) ?_); · (first | (simp; done) | (simp; omega) | omega))))
  obtain ⟨w2, hw2⟩ : ∃ w2, w2 = w1.alloc (.cells #[.int .i64 X, .int .i64 Y] 26) := ⟨_, rfl⟩
  have s2 : w2.heap.size = w1.heap.size + 1 := by rw [hw2]; simp
  have b2 : Below w.heap.size w w2 := by rw [hw2]; exact bw1.alloc (by omega) _
  have c0 : w2.cell? ⟨w1.heap.size, 0, none⟩ = some (.int .i64 X) := by rw [hw2]; simp [go_sem]
  have c1 : w2.cell? ⟨w1.heap.size, 1, none⟩ = some (.int .i64 Y) := by rw [hw2]; simp [go_sem]
  have C0 := Lib.hid c0
  have C1 := Lib.hid c1
  have B2 := Lib.hid b2
  have hmade := MapE.made w2 (fun _ _ _ => 0) (fun _ _ _ => rfl)
  have HMADE := Lib.hid hmade
  have HBM := Lib.hid ((Below.refl w2.heap.size w2).alloc (Nat.le_refl _) (.map #[] 0))
  clear hc1 hf1 hb1 c0 c1 bw1 hmade b2
  go_wp2
  rw [← hw2]
  obtain ⟨mb, hmb⟩ : ∃ m, m = w1.heap.size + 1 := ⟨_, rfl⟩
  rw [s2, ← hmb] at HMADE HBM
  rw [← hmb]
  obtain ⟨ca, hca⟩ : ∃ c, c = w1.heap.size := ⟨_, rfl⟩
  rw [← hca] at C0 C1 ⊢
  have hcm : ca < mb := by omega
  have hs2 : w2.heap.size = mb := by omega
  have hwm : w.heap.size ≤ mb := by omega
  clear hw2 s2 hmb hca z1_w0 s1 HLY w1
  go_loopw [5] (fun i wr => ∃ (p n : Nat) (M : C3), 1 ≤ p ∧ p ≤ X + 1 ∧ i = .int .i64 p ∧ n ≤ 12 * p ∧ MapE wr mb n M ∧ DoneE M Y p 1 ∧ Below mb w2 wr) (fun i _ => X + 1 - (intOf i).toNat)
  case atStart => exact ⟨1, 0, _, by omega, by omega, rfl, by omega, HMADE.out, DoneE.start _, HBM.out⟩
  case round =>
    clear HMADE HBM
    obtain ⟨p, n, M, hp1, hpX, rfl, hn, hM, hD, hBl⟩ := hrel
    have e0 := (hBl.cell (p := ⟨ca, 0, none⟩) (by show ca < mb; omega)).trans C0.out
    have e1 := (hBl.cell (p := ⟨ca, 1, none⟩) (by show ca < mb; omega)).trans C1.out
    by_cases hlt : p ≤ X
    · have hlti : (p : Int) ≤ (X : Int) := by omega
      have HM := Lib.hid hM
      have HD := Lib.hid hD
      have HBl := Lib.hid hBl
      clear hM hD hBl
      go_wp2
      clear e0 e1
      go_loopw [6] (fun i wr => ∃ (q n : Nat) (M : C3), 1 ≤ q ∧ q ≤ min p Y + 1 ∧ i = .int .i64 q ∧ n + 1 ≤ 12 * p + q ∧ MapE wr mb n M ∧ DoneE M Y p q ∧ Below mb w2 wr) (fun i _ => min p Y + 1 - (intOf i).toNat)
      case atStart => exact ⟨1, n, M, by omega, by omega, rfl, by omega, HM.out, HD.out, HBl.out⟩
      case round =>
        clear HM HD HBl hn
        obtain ⟨q, n, M, hq1, hqY, rfl, hn, hM, hD, hBl⟩ := hrel
        have e0 := (hBl.cell (p := ⟨ca, 0, none⟩) (by show ca < mb; omega)).trans C0.out
        have e1 := (hBl.cell (p := ⟨ca, 1, none⟩) (by show ca < mb; omega)).trans C1.out
        by_cases hYp : Y < p
        · have hYi : (Y : Int) < (p : Int) := by omega
          by_cases hlq : q ≤ Y
          · have hlqi : (q : Int) ≤ (Y : Int) := by omega
            have sB := hBl.size
            have hbm := hM.lt
            have hMA := hM.alloc (.cells #[.int .i64 p, .int .i64 q] 26)
            have hpq : p * q ≤ 144 := Nat.le_trans (Nat.mul_le_mul (show p ≤ 12 by omega) (show q ≤ 12 by omega)) (by omega)
            have HDP : Hid (∀ f, LeastE (p * q) (fun s x => CandH (lyN M) p q s x) f → (∀ k, 0 ≤ f k ∧ f k ≤ 20736) → DoneE (updE M p q f) Y p (q + 1)) := fun f h1 h2 => hD.put h1 h2
            have HWO : Hid (∀ wx, MapE wx mb n M → Calls Try.prog 43 #[bar2 p q, .map (some mb)] wx fun e w' => ∃ f : Nat → Int, e = .returned (.agg (arrE f)) ∧ LeastE (p * q) (fun s x => CandH (lyN M) p q s x) f ∧ (∀ k, 0 ≤ f k ∧ f k ≤ 20736) ∧ Below wx.heap.size wx w') := fun wx hm => by
              refine (leastCosts_any p q mb n M wx hp1 (by omega) hq1 (by omega) hm hD.bound).mono ?_
              rintro e w' ⟨f, rfl, h, hb⟩
              exact ⟨truncE f, by rw [arrE_trunc], (h.trunc hpq).1, (h.trunc hpq).2, hb⟩
            have bA := hBl.alloc (show mb ≤ wr.heap.size by omega) (.cells #[.int .i64 p, .int .i64 q] 26)
            have d0 : (wr.alloc (.cells #[.int .i64 p, .int .i64 q] 26)).cell? ⟨wr.heap.size, 0, none⟩ = some (.int .i64 p) := by simp [go_sem]
            have d1 : (wr.alloc (.cells #[.int .i64 p, .int .i64 q] 26)).cell? ⟨wr.heap.size, 1, none⟩ = some (.int .i64 q) := by simp [go_sem]
            have szA : (wr.alloc (.cells #[.int .i64 p, .int .i64 q] 26)).heap.size = wr.heap.size + 1 := by simp
            have hn1 : n ≤ 100000 := by omega
            have hp100 : p ≤ 100 := by omega
            have hq100 : q ≤ 100 := by omega
            have HMA := Lib.hid hMA
            have BA := Lib.hid bA
            clear hM hD hBl hMA bA
            go_wp2
            clear e0 e1
            generalize wr.alloc (.cells #[.int .i64 p, .int .i64 q] 26) = wA at *
            have hltA : wr.heap.size < wA.heap.size := by omega
            refine wp_region_held_drew (S := (fun w' => w'.cell? ⟨wr.heap.size, 0, none⟩ = some (.int .i64 p) ∧ w'.cell? ⟨wr.heap.size, 1, none⟩ = some (.int .i64 q))) (by kernel_rfl) ?_ (fun hHeld => ?_)
            · ((try dsimp only); (repeat' apply And.intro); all_goals ((repeat (first | (with_reducible refine cell_drew ?_) | (with_reducible refine cell_drewN _ ?_) | ((with_reducible refine cell_alloc ?_ ?_); · first | omega | (simp; done) | (simp; omega) | assumption) | ((with_reducible refine cell_set ?_ ?_); · first | (intro e; injection e; omega) | (intro e; simp at e; done) | (intro e; simp at e; omega)))); first | assumption | (simp; done)))
            refine reg_on (i := 0) (d := 28) (v := ?rv1) rfl rfl (by kernel_rfl) (by kernel_rfl) (by kernel_rfl) (fun _ _ _ h => h) (by rfl) ?ry1 (by assumption) ?rr1
            case ry1 => (intro wz hSw; (try dsimp only at hSw); go_simp; try with_reducible rfl)
            (try simp only [Act.put, List.setIfInBounds_toArray, List.set_cons_zero, List.set_cons_succ])
            refine reg_on (i := 1) (d := 29) (v := ?rv2) rfl rfl (by kernel_rfl) (by kernel_rfl) (by kernel_rfl) (fun _ _ _ h => h) (by rfl) ?ry2 (by assumption) ?rr2
            case ry2 => (intro wz hSw; (try dsimp only at hSw); go_simp; try with_reducible rfl)
            (try simp only [Act.put, List.setIfInBounds_toArray, List.set_cons_zero, List.set_cons_succ])
            refine reg_on (i := 2) (d := 30) (v := ?rv3) rfl rfl (by kernel_rfl) (by kernel_rfl) (by kernel_rfl) (fun _ _ _ h => h) (by rfl) ?ry3 (by assumption) ?rr3
            case ry3 => (intro wz hSw; (try dsimp only at hSw); go_simp; try with_reducible rfl)
            (try simp only [Act.put, List.setIfInBounds_toArray, List.set_cons_zero, List.set_cons_succ])
            refine reg_on (i := 3) (d := 31) (v := ?rv4) rfl rfl (by kernel_rfl) (by kernel_rfl) (by kernel_rfl) (fun _ _ _ h => h) (by rfl) ?ry4 (by assumption) ?rr4
            case ry4 => (intro wz hSw; (try dsimp only at hSw); go_simp; try with_reducible rfl)
            (try simp only [Act.put, List.setIfInBounds_toArray, List.set_cons_zero, List.set_cons_succ])
            refine wpAnyH_ready (rs := [4]) (by kernel_rfl) (by simp) ?_
            refine AllReadyH.cons rfl (fun K hK => ?_) AllReadyH.nil
            go_simp
            go_at_call 43; refine (HWO.out _ (by exact HMA.out.drew)).mono ?_; rintro e w7 ⟨f, rfl, hf, hfb, hb7⟩; have s7 := hb7.size; (try simp at s7); have hM7 : MapE w7 mb n M := HMA.out.drew.below hb7 (by first | (simp; omega) | omega); obtain ⟨w8, hrun8, hM8, hg8⟩ := hM7.put hn1 hp100 hq100 f; have f0 : w7.cell? ⟨wr.heap.size, 0, none⟩ = some (.int .i64 p) := (hb7.cell (p := ⟨wr.heap.size, 0, none⟩) (by first | (simp; done) | (simp; omega) | omega)).trans (by first | assumption | (go_split_ands; assumption)); have f1 : w7.cell? ⟨wr.heap.size, 1, none⟩ = some (.int .i64 q) := (hb7.cell (p := ⟨wr.heap.size, 1, none⟩) (by first | (simp; done) | (simp; omega) | omega)).trans (by first | assumption | (go_split_ands; assumption)); have hne8 : some wr.heap.size ≠ some mb := (by simp; omega); have f2 := hg8.cell (a := ⟨wr.heap.size, 0, none⟩) f0 hne8; have f3 := hg8.cell (a := ⟨wr.heap.size, 1, none⟩) f1 hne8
            refine hK.out _ _ ?_ (fun hHeld => ?_)
            · ((try dsimp only); (repeat' apply And.intro); all_goals ((repeat (first | (with_reducible refine cell_drew ?_) | (with_reducible refine cell_drewN _ ?_) | ((with_reducible refine cell_alloc ?_ ?_); · first | omega | (simp; done) | (simp; omega) | assumption) | ((with_reducible refine cell_set ?_ ?_); · first | (intro e; injection e; omega) | (intro e; simp at e; done) | (intro e; simp at e; omega)))); first | assumption | (simp; done)))
            clear hK K
            (try simp only [Act.put, List.setIfInBounds_toArray, List.set_cons_zero, List.set_cons_succ])
            refine wpAnyH_ready (rs := [5]) (by kernel_rfl) (by simp) ?_
            refine AllReadyH.cons rfl (fun K hK => ?_) AllReadyH.nil
            go_simp
            refine hK.out _ _ ?_ (fun hHeld => ?_)
            · ((try dsimp only); (repeat' apply And.intro); all_goals ((repeat (first | (with_reducible refine cell_drew ?_) | (with_reducible refine cell_drewN _ ?_) | ((with_reducible refine cell_alloc ?_ ?_); · first | omega | (simp; done) | (simp; omega) | assumption) | ((with_reducible refine cell_set ?_ ?_); · first | (intro e; injection e; omega) | (intro e; simp at e; done) | (intro e; simp at e; omega)))); first | assumption | (simp; done)))
            clear hK K
            (try simp only [Act.put, List.setIfInBounds_toArray, List.set_cons_zero, List.set_cons_succ])
            refine wpAnyH_done (by kernel_rfl) ?_ _
            have b8 : Below mb w2 w8 := (BA.out.drew.trans (hb7.mono (by simp; omega))).grown hg8 (by omega) (fun k hk => by have : mb = k := (by simpa using hk); omega)
            have HM8 := Lib.hid hM8
            have B8 := Lib.hid b8
            have HF := Lib.hid (HDP.out f hf hfb)
            clear hM7 hrun8 hM8 hg8 hb7 f0 f1 f2 f3 hne8 b8 d0 d1 HWO hf hfb HDP
            go_wp2
            go_roundw
            case rel => exact ⟨q + 1, n + 1, _, by omega, by omega, by go_num, by omega, HM8.out, HF.out, B8.out⟩
            case measure => simp [intOf]; omega
          · have hqe : Y < q := by omega
            have hnle : ¬ (q : Int) ≤ (Y : Int) := by omega
            have HM := Lib.hid hM
            have HD := Lib.hid (hD.row (by omega))
            have HBl := Lib.hid hBl
            clear hM hD hBl
            go_wp2
            go_roundw
            case rel => exact ⟨p + 1, n, M, by omega, by omega, by go_num, by omega, HM.out, HD.out, HBl.out⟩
            case measure => simp [intOf]; omega
        · have hYi : ¬ (Y : Int) < (p : Int) := by omega
          by_cases hlq : q ≤ p
          · have hlqi : (q : Int) ≤ (p : Int) := by omega
            have sB := hBl.size
            have hbm := hM.lt
            have hMA := hM.alloc (.cells #[.int .i64 p, .int .i64 q] 26)
            have hpq : p * q ≤ 144 := Nat.le_trans (Nat.mul_le_mul (show p ≤ 12 by omega) (show q ≤ 12 by omega)) (by omega)
            have HDP : Hid (∀ f, LeastE (p * q) (fun s x => CandH (lyN M) p q s x) f → (∀ k, 0 ≤ f k ∧ f k ≤ 20736) → DoneE (updE M p q f) Y p (q + 1)) := fun f h1 h2 => hD.put h1 h2
            have HWO : Hid (∀ wx, MapE wx mb n M → Calls Try.prog 43 #[bar2 p q, .map (some mb)] wx fun e w' => ∃ f : Nat → Int, e = .returned (.agg (arrE f)) ∧ LeastE (p * q) (fun s x => CandH (lyN M) p q s x) f ∧ (∀ k, 0 ≤ f k ∧ f k ≤ 20736) ∧ Below wx.heap.size wx w') := fun wx hm => by
              refine (leastCosts_any p q mb n M wx hp1 (by omega) hq1 (by omega) hm hD.bound).mono ?_
              rintro e w' ⟨f, rfl, h, hb⟩
              exact ⟨truncE f, by rw [arrE_trunc], (h.trunc hpq).1, (h.trunc hpq).2, hb⟩
            have bA := hBl.alloc (show mb ≤ wr.heap.size by omega) (.cells #[.int .i64 p, .int .i64 q] 26)
            have d0 : (wr.alloc (.cells #[.int .i64 p, .int .i64 q] 26)).cell? ⟨wr.heap.size, 0, none⟩ = some (.int .i64 p) := by simp [go_sem]
            have d1 : (wr.alloc (.cells #[.int .i64 p, .int .i64 q] 26)).cell? ⟨wr.heap.size, 1, none⟩ = some (.int .i64 q) := by simp [go_sem]
            have szA : (wr.alloc (.cells #[.int .i64 p, .int .i64 q] 26)).heap.size = wr.heap.size + 1 := by simp
            have hn1 : n ≤ 100000 := by omega
            have hp100 : p ≤ 100 := by omega
            have hq100 : q ≤ 100 := by omega
            have HMA := Lib.hid hMA
            have BA := Lib.hid bA
            clear hM hD hBl hMA bA
            go_wp2
            clear e0 e1
            generalize wr.alloc (.cells #[.int .i64 p, .int .i64 q] 26) = wA at *
            have hltA : wr.heap.size < wA.heap.size := by omega
            refine wp_region_held_drew (S := (fun w' => w'.cell? ⟨wr.heap.size, 0, none⟩ = some (.int .i64 p) ∧ w'.cell? ⟨wr.heap.size, 1, none⟩ = some (.int .i64 q))) (by kernel_rfl) ?_ (fun hHeld => ?_)
            · ((try dsimp only); (repeat' apply And.intro); all_goals ((repeat (first | (with_reducible refine cell_drew ?_) | (with_reducible refine cell_drewN _ ?_) | ((with_reducible refine cell_alloc ?_ ?_); · first | omega | (simp; done) | (simp; omega) | assumption) | ((with_reducible refine cell_set ?_ ?_); · first | (intro e; injection e; omega) | (intro e; simp at e; done) | (intro e; simp at e; omega)))); first | assumption | (simp; done)))
            refine reg_on (i := 0) (d := 28) (v := ?rv7) rfl rfl (by kernel_rfl) (by kernel_rfl) (by kernel_rfl) (fun _ _ _ h => h) (by rfl) ?ry7 (by assumption) ?rr7
            case ry7 => (intro wz hSw; (try dsimp only at hSw); go_simp; try with_reducible rfl)
            (try simp only [Act.put, List.setIfInBounds_toArray, List.set_cons_zero, List.set_cons_succ])
            refine reg_on (i := 1) (d := 29) (v := ?rv8) rfl rfl (by kernel_rfl) (by kernel_rfl) (by kernel_rfl) (fun _ _ _ h => h) (by rfl) ?ry8 (by assumption) ?rr8
            case ry8 => (intro wz hSw; (try dsimp only at hSw); go_simp; try with_reducible rfl)
            (try simp only [Act.put, List.setIfInBounds_toArray, List.set_cons_zero, List.set_cons_succ])
            refine reg_on (i := 2) (d := 30) (v := ?rv9) rfl rfl (by kernel_rfl) (by kernel_rfl) (by kernel_rfl) (fun _ _ _ h => h) (by rfl) ?ry9 (by assumption) ?rr9
            case ry9 => (intro wz hSw; (try dsimp only at hSw); go_simp; try with_reducible rfl)
            (try simp only [Act.put, List.setIfInBounds_toArray, List.set_cons_zero, List.set_cons_succ])
            refine reg_on (i := 3) (d := 31) (v := ?rv10) rfl rfl (by kernel_rfl) (by kernel_rfl) (by kernel_rfl) (fun _ _ _ h => h) (by rfl) ?ry10 (by assumption) ?rr10
            case ry10 => (intro wz hSw; (try dsimp only at hSw); go_simp; try with_reducible rfl)
            (try simp only [Act.put, List.setIfInBounds_toArray, List.set_cons_zero, List.set_cons_succ])
            refine wpAnyH_ready (rs := [4]) (by kernel_rfl) (by simp) ?_
            refine AllReadyH.cons rfl (fun K hK => ?_) AllReadyH.nil
            go_simp
            go_at_call 43; refine (HWO.out _ (by exact HMA.out.drew)).mono ?_; rintro e w7 ⟨f, rfl, hf, hfb, hb7⟩; have s7 := hb7.size; (try simp at s7); have hM7 : MapE w7 mb n M := HMA.out.drew.below hb7 (by first | (simp; omega) | omega); obtain ⟨w8, hrun8, hM8, hg8⟩ := hM7.put hn1 hp100 hq100 f; have f0 : w7.cell? ⟨wr.heap.size, 0, none⟩ = some (.int .i64 p) := (hb7.cell (p := ⟨wr.heap.size, 0, none⟩) (by first | (simp; done) | (simp; omega) | omega)).trans (by first | assumption | (go_split_ands; assumption)); have f1 : w7.cell? ⟨wr.heap.size, 1, none⟩ = some (.int .i64 q) := (hb7.cell (p := ⟨wr.heap.size, 1, none⟩) (by first | (simp; done) | (simp; omega) | omega)).trans (by first | assumption | (go_split_ands; assumption)); have hne8 : some wr.heap.size ≠ some mb := (by simp; omega); have f2 := hg8.cell (a := ⟨wr.heap.size, 0, none⟩) f0 hne8; have f3 := hg8.cell (a := ⟨wr.heap.size, 1, none⟩) f1 hne8
            refine hK.out _ _ ?_ (fun hHeld => ?_)
            · ((try dsimp only); (repeat' apply And.intro); all_goals ((repeat (first | (with_reducible refine cell_drew ?_) | (with_reducible refine cell_drewN _ ?_) | ((with_reducible refine cell_alloc ?_ ?_); · first | omega | (simp; done) | (simp; omega) | assumption) | ((with_reducible refine cell_set ?_ ?_); · first | (intro e; injection e; omega) | (intro e; simp at e; done) | (intro e; simp at e; omega)))); first | assumption | (simp; done)))
            clear hK K
            (try simp only [Act.put, List.setIfInBounds_toArray, List.set_cons_zero, List.set_cons_succ])
            refine wpAnyH_ready (rs := [5]) (by kernel_rfl) (by simp) ?_
            refine AllReadyH.cons rfl (fun K hK => ?_) AllReadyH.nil
            go_simp
            refine hK.out _ _ ?_ (fun hHeld => ?_)
            · ((try dsimp only); (repeat' apply And.intro); all_goals ((repeat (first | (with_reducible refine cell_drew ?_) | (with_reducible refine cell_drewN _ ?_) | ((with_reducible refine cell_alloc ?_ ?_); · first | omega | (simp; done) | (simp; omega) | assumption) | ((with_reducible refine cell_set ?_ ?_); · first | (intro e; injection e; omega) | (intro e; simp at e; done) | (intro e; simp at e; omega)))); first | assumption | (simp; done)))
            clear hK K
            (try simp only [Act.put, List.setIfInBounds_toArray, List.set_cons_zero, List.set_cons_succ])
            refine wpAnyH_done (by kernel_rfl) ?_ _
            have b8 : Below mb w2 w8 := (BA.out.drew.trans (hb7.mono (by simp; omega))).grown hg8 (by omega) (fun k hk => by have : mb = k := (by simpa using hk); omega)
            have HM8 := Lib.hid hM8
            have B8 := Lib.hid b8
            have HF := Lib.hid (HDP.out f hf hfb)
            clear hM7 hrun8 hM8 hg8 hb7 f0 f1 f2 f3 hne8 b8 d0 d1 HWO hf hfb HDP
            go_wp2
            go_roundw
            case rel => exact ⟨q + 1, n + 1, _, by omega, by omega, by go_num, by omega, HM8.out, HF.out, B8.out⟩
            case measure => simp [intOf]; omega
          · have hqe : p < q := by omega
            have hnle : ¬ (q : Int) ≤ (p : Int) := by omega
            have HM := Lib.hid hM
            have HD := Lib.hid (hD.row (by omega))
            have HBl := Lib.hid hBl
            clear hM hD hBl
            go_wp2
            go_roundw
            case rel => exact ⟨p + 1, n, M, by omega, by omega, by go_num, by omega, HM.out, HD.out, HBl.out⟩
            case measure => simp [intOf]; omega
    · have hpe : p = X + 1 := by omega
      subst hpe
      have hnle : ¬ ((X + 1 : Nat) : Int) ≤ (X : Int) := by omega
      have HRC := Lib.hid hD.solves
      have HBD := Lib.hid hD.bound
      have HM := Lib.hid hM
      have HBl := Lib.hid hBl
      clear hM hD hBl
      go_wp2
      refine bodyPost_ret (v := .map (some mb)) (by simp [results, Try.results27, go_sem]) rfl ⟨M, mb, rfl, ⟨n, HM.out⟩, HRC.out, HBD.out, hwm, B2.out.trans (HBl.out.mono hwm)⟩
end Go.Proofs.Ytobncknlipeinaa
