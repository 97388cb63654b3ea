/-
  Contract: the model's brCounts, orders told.
-/
import Derived.Test.YtjfedmcejeeocaaTabO
import Derived.Test.YtjfedmcejeeocaaBrC
import Derived.Test.YtjfedmcejeeocaaReg
import Derived.OwnWalk
import Derived.Deep.QuietTactic
import Derived.BigQuiet
namespace Go.Proofs.Ytjfedmcejeeocaa
open Go.RowKit Go.Maps
set_option linter.unusedVariables false

theorem step_startO (M : Nat → Nat → Int) (p q : Nat) : stepO M p q = acrossO M p q (q - 1) (downO M p q (p - 1) (start0 p q)) := by
  unfold stepO start0
  split
  · rename_i h
    obtain ⟨rfl, rfl⟩ := h
    rfl
  · rfl

set_option maxRecDepth 100000 in
set_option maxHeartbeats 4000000 in
theorem brCounts_yes (X Y : Nat) (w : World) (hX1 : 1 ≤ X) (hX : X ≤ 12) (hY1 : 1 ≤ Y) (hY : Y ≤ 12) :
    Calls Try.prog 30 #[bar2 X Y, .bool true] w fun e w' => ∃ M, RecO M X Y ∧ e = .returned (.int .i64 (M X Y)) ∧ Below w.heap.size w w' := by
  obtain ⟨i0, hi, hz0, hz1, hz2⟩ := info_parts ints_info
  obtain ⟨i1, hi1, hy0, hy1, hy2⟩ := info_parts int_info
  have c0 : (w.alloc (.cells #[.int .i64 X, .int .i64 Y] 27)).cell? ⟨w.heap.size, 0, none⟩ = some (.int .i64 X) := by simp [go_sem]
  have c1 : (w.alloc (.cells #[.int .i64 X, .int .i64 Y] 27)).cell? ⟨w.heap.size, 1, none⟩ = some (.int .i64 Y) := by simp [go_sem]
  have bw : Below w.heap.size w (w.alloc (.cells #[.int .i64 X, .int .i64 Y] 27)) := by (repeat (first | (with_reducible exact Below.refl _ _) | (with_reducible assumption) | (with_reducible refine Below.drew ?_) | ((with_reducible refine balloc ?_ _ ?_); · (first | (simp; done) | (simp; omega) | omega)) | ((with_reducible refine bset ?_ _ ?_); · (first | (simp; done) | (simp; omega) | omega)) | (with_reducible refine bdrewN _ ?_) | ((with_reducible refine bcall ?_ (by assumption) ?_); · (first | (simp; done) | (simp; omega) | omega))))
  have szx : (w.alloc (.cells #[.int .i64 X, .int .i64 Y] 27)).heap.size = w.heap.size + 1 := by simp
  have C0 := Lib.hid c0
  have C1 := Lib.hid c1
  have BW := Lib.hid bw
  clear bw
  go_enter Try.func30, Try.ntmps30
  go_wp2_with (at_make; refine wpList_make_full _ rfl (.tmp 14) (.tmp 14) 52 rfl (w.heap.size + 1) 51 i0 (.slice none 0 0) 1 Try.underlying52 hi hz0 hz1 .i64 .i64 _ _ (X + 1) rfl rfl (by omega) (by omega) ?b2 ?b3 ?b4 ?_)
  case b2 => rw [hz2]; omega
  case b3 => simp only [maxLen]; omega
  case b4 => simp
  · intro w1 hownT hgrowT
    generalize (madeCells (Value.slice none 0 0).cells ((X + 1) * 1)).toList = tab0 at hownT
    have hbT : Below (w.heap.size + 1) (w.alloc (.cells #[.int .i64 X, .int .i64 Y] 27)) w1 := (Below.refl _ _).grown hgrowT (by simp) (fun k hk => by cases hk)
    have hgl := (hownT.lt (w.heap.size + 1) rfl).2
    have HOT := Lib.hid hownT
    have HBT := Lib.hid hbT
    clear hgrowT hownT hbT c0 c1
    go_wp2
    go_loopw [6] (fun i wr => ∃ (p : Nat) (M : Nat → Nat → Int) (tab : List Value), 1 ≤ p ∧ p ≤ X + 1 ∧ i = .int .i64 p ∧ wr.ownsRow (w.heap.size + 1) 51 1 (.slice (some ⟨w.heap.size + 1, 0, none⟩) (X + 1) (X + 1)) (X + 1) tab ∧ TabOk wr (w.heap.size + 1) wr.heap.size Y p M ∧ DoneO M Y p 1 ∧ Below (w.heap.size + 1) (w.alloc (.cells #[.int .i64 X, .int .i64 Y] 27)) wr) (fun i _ => X + 1 - (intOf i).toNat)
    case atStart => exact ⟨1, fun _ _ => 0, _, by omega, by omega, rfl, HOT.out, fun i h1 h2 => by omega, DoneO.start _ _, HBT.out⟩
    case round =>
      clear HOT HBT hgl
      obtain ⟨p, M, tab, hp1, hpX, rfl, hownT, hTB, hD, hBl⟩ := hrel
      have hgl := (hownT.lt (w.heap.size + 1) rfl).2
      have e0 := (hBl.cell (p := ⟨w.heap.size, 0, none⟩) (by show w.heap.size < w.heap.size + 1; omega)).trans C0.out
      have e1 := (hBl.cell (p := ⟨w.heap.size, 1, none⟩) (by show w.heap.size < w.heap.size + 1; omega)).trans C1.out
      by_cases hlt : p ≤ X
      · have hlti : (p : Int) ≤ (X : Int) := by omega
        have HOT := Lib.hid hownT
        have HTB := Lib.hid hTB
        have HD := Lib.hid hD
        have HBl := Lib.hid hBl
        clear hownT hTB hD hBl
        go_wp2_with (at_make; refine wpList_make_full _ rfl (.tmp 24) (.tmp 24) 51 rfl (w.heap.size + 1) 3 i1 (.int .i64 0) 1 Try.underlying51 hi1 hy0 hy1 .i64 .i64 _ _ (Y + 1) rfl rfl (by omega) (by omega) ?b2 ?b3 ?b4 ?_)
        case b2 => rw [hy2]; omega
        case b3 => simp only [maxLen]; omega
        case b4 => omega
        · intro w2 hownR hgrowR
          generalize (madeCells (Value.int .i64 0).cells ((Y + 1) * 1)).toList = L0 at hownR
          have hb2 : Below wr.heap.size wr w2 := (Below.refl _ _).grown hgrowR (Nat.le_refl _) (fun k hk => by cases hk)
          have hT2 := HOT.out.kept hgrowR (.inr (by simp [Value.ownBlock]))
          have hTB2 := HTB.out.below hb2 (by omega) (Nat.le_refl _)
          have hbl2 : Below (w.heap.size + 1) (w.alloc (.cells #[.int .i64 X, .int .i64 Y] 27)) w2 := HBl.out.trans (hb2.mono (by omega))
          have HOR := Lib.hid hownR
          have HT2 := Lib.hid hT2
          have HTB2 := Lib.hid hTB2
          have HBL2 := Lib.hid hbl2
          clear hownR hgrowR hb2 hT2 hTB2 hbl2 HOT HTB HBl e0 e1
          obtain ⟨gr, hgr⟩ : ∃ gr, gr = wr.heap.size := ⟨_, rfl⟩
          rw [← hgr] at HOR HTB2 ⊢
          have hgt : w.heap.size + 1 < gr := by omega
          clear hgl hgr
          go_wp2
          go_loopw [8] (fun i wr => ∃ (q : Nat) (M : Nat → Nat → Int) (L : List Value), 1 ≤ q ∧ q ≤ Y + 1 ∧ i = .int .i64 q ∧ wr.ownsRow (w.heap.size + 1) 51 1 (.slice (some ⟨w.heap.size + 1, 0, none⟩) (X + 1) (X + 1)) (X + 1) tab ∧ wr.ownsRow (w.heap.size + 1) 3 1 (.slice (some ⟨gr, 0, none⟩) (Y + 1) (Y + 1)) (Y + 1) L ∧ (∀ j, 1 ≤ j → j < q → L[j]? = some (.int .i64 (M p j))) ∧ TabOk wr (w.heap.size + 1) gr Y p M ∧ DoneO M Y p q ∧ Below (w.heap.size + 1) (w.alloc (.cells #[.int .i64 X, .int .i64 Y] 27)) wr) (fun i _ => Y + 1 - (intOf i).toNat)
          case atStart => exact ⟨1, M, _, by omega, by omega, rfl, HT2.out, HOR.out, fun j h1 h2 => by omega, HTB2.out, HD.out, HBL2.out⟩
          case round =>
            clear HT2 HOR HTB2 HD HBL2
            obtain ⟨q, M, L, hq1, hqY, rfl, hownT, hownR, hLL, hTB, hD, hBl⟩ := hrel
            have e0 := (hBl.cell (p := ⟨w.heap.size, 0, none⟩) (by show w.heap.size < w.heap.size + 1; omega)).trans C0.out
            have e1 := (hBl.cell (p := ⟨w.heap.size, 1, none⟩) (by show w.heap.size < w.heap.size + 1; omega)).trans C1.out
            have hgrl := (hownR.lt gr rfl).2
            by_cases hlq : q ≤ Y
            · have hlqi : (q : Int) ≤ (Y : Int) := by omega
              have hG := hD.good hlq
              have HDN := Lib.hid (downO_in hG hq1)
              have HAC := Lib.hid (acrossO_in hG hp1)
              have HDP := Lib.hid (hD.put hp1 hq1 hlq)
              have HG := Lib.hid hG
              have HSTP := Lib.hid (step_startO M p q)
              have hrw : ∀ j, 1 ≤ j → j < q → wr.cell? ⟨gr, j, none⟩ = some (.int .i64 (M p j)) := fun j j1 j2 => by
                have h := hownR.cellAt j (by omega)
                rw [h]
                exact hLL j j1 j2
              have HRW := Lib.hid hrw
              have HOT := Lib.hid hownT
              have HOR := Lib.hid hownR
              have HLL := Lib.hid hLL
              have HTB := Lib.hid hTB
              have HBW := Lib.hid hBl
              have mm := mul_144 (a := (p : Int)) (b := (q : Int)) (by omega) (by omega) (by omega) (by omega)
              have wpq : IntKind.i64.wrap ((p : Int) * (q : Int)) = (p : Int) * (q : Int) := IntWalk.i64_in _ (by omega)
              clear hG hrw hownT hownR hLL hTB hBl hD e0 mm
              by_cases h11 : p = 1 ∧ q = 1
              · have HS0 : Hid (start0 p q = 1) := if_pos h11
                have HS1 : Hid (0 ≤ start0 p q ∧ start0 p q ≤ 1000000000000001) := by simp only [Hid]; rw [HS0.out]; omega
                have e11 : ((p : Int) * (q : Int) == 1) = true := by rw [h11.1, h11.2]; rfl
                clear h11
                go_wp2
                clear e1 wpq
                obtain ⟨wo, rfl⟩ : ∃ wo : World, wo = wr := ⟨_, rfl⟩
                go_loopw [9, 10] (fun s i wr => ∃ k : Nat, k + 1 ≤ p ∧ i = .int .i64 ((k : Int) + 1) ∧ s = .int .i64 (downO M p q k (start0 p q)) ∧ Below wo.heap.size wo wr) (fun _ i _ => p + 1 - (intOf i).toNat)
                case atStart => exact ⟨0, by omega, rfl, by rw [HS0.out]; rfl, Below.refl _ _⟩
                case round =>
                  obtain ⟨k, hk, rfl, rfl, hBl⟩ := hrel
                  have HBl := Lib.hid hBl
                  clear hBl
                  by_cases hltk : k + 1 < p
                  · have hlti : (k : Int) + 1 < (p : Int) := by omega
                    obtain ⟨u, hu⟩ : ∃ u, u = p - (k + 1) := ⟨_, rfl⟩
                    have hin := HDN.out k (start0 p q) (by omega) HS1.out.1 HS1.out.2
                    obtain ⟨i1', i2', _⟩ := hin
                    have HST : Hid (downO M p q (k + 1) (start0 p q) = capS (downO M p q k (start0 p q) + timesC (timesC (M (k + 1) q) (M u q)) (binC ((k + 1) * q - 1) (u * q - 1)))) := by simp only [Hid, downO, tO, hu]
                    have r1 : InR (M (k + 1) q) := HG.out _ _ (by omega) (by omega) (by omega) (by omega) (by omega)
                    have r2 : InR (M u q) := HG.out _ _ (by omega) (by omega) (by omega) (by omega) (by omega)
                    have hA1 : 1 ≤ (k + 1) * q ∧ (k + 1) * q ≤ 144 := ⟨Nat.mul_pos (by omega) (by omega), Nat.le_trans (Nat.mul_le_mul (show k + 1 ≤ 12 by omega) (show q ≤ 12 by omega)) (by omega)⟩
                    have hA2 : 1 ≤ u * q ∧ u * q ≤ 144 := ⟨Nat.mul_pos (by omega) (by omega), Nat.le_trans (Nat.mul_le_mul (show u ≤ 12 by omega) (show q ≤ 12 by omega)) (by omega)⟩
                    have hAT : p * q = (k + 1) * q + u * q := by rw [← Nat.add_mul]; congr 1; omega
                    have hPQ : p * q ≤ 144 := Nat.le_trans (Nat.mul_le_mul (show p ≤ 12 by omega) (show q ≤ 12 by omega)) (by omega)
                    obtain ⟨A1, hAe1⟩ : ∃ A, A = (k + 1) * q - 1 := ⟨_, rfl⟩
                    obtain ⟨A2, hAe2⟩ : ∃ A, A = u * q - 1 := ⟨_, rfl⟩
                    obtain ⟨AT, hAeT⟩ : ∃ A, A = A1 + A2 := ⟨_, rfl⟩
                    have wm1 : IntKind.i64.wrap (((k : Int) + 1) * (q : Int)) = (A1 : Int) + 1 := by rw [show ((k : Int) + 1) * (q : Int) = (((k + 1) * q : Nat) : Int) by simp, IntWalk.i64_in _ (by omega)]; omega
                    have wm3 : IntKind.i64.wrap ((p : Int) * (q : Int)) = (AT : Int) + 2 := by rw [← Int.natCast_mul, IntWalk.i64_in _ (by omega)]; omega
                    rw [← hAe1, ← hAe2] at HST
                    have e5 : binC A1 A2 = ((capN (bin AT A1) : Nat) : Int) := by rw [hAeT]; rfl
                    rw [e5] at HST
                    have HBB := Lib.hid (fun (wx : World) => brBoth_yes (M (k + 1) q) (M u q) A1 AT wx r1 r2 (by omega) (by omega))
                    have tin := timesC_in (timesC_in r1 r2) (capN_in (n := AT) (k := A1) (by omega))
                    obtain ⟨t1, t2⟩ := tin
                    have bA1 : A1 ≤ 143 := by omega
                    have bAT : AT ≤ 143 := by omega
                    have wA1 : IntKind.i64.wrap (A1 : Int) = (A1 : Int) := IntWalk.i64_in _ (by omega)
                    have wAT : IntKind.i64.wrap (AT : Int) = (AT : Int) := IntWalk.i64_in _ (by omega)
                    clear hA1 hA2 hAT hPQ hAe1 hAe2 hAeT e5
                    have wsub : IntKind.i64.wrap ((p : Int) - ((k : Int) + 1)) = (u : Int) := by rw [IntWalk.i64_in _ (by omega)]; omega
                    have ek : ((k : Int) + 1).toNat = k + 1 := by omega
                    have x1 : (0 : Int) ≤ (k : Int) + 1 := by omega
                    have x3 : (0 : Int) ≤ (u : Int) := by omega
                    have x5 : (0 : Int) ≤ (q : Int) := by omega
                    have x6 : (q : Int) < (Y : Int) + 1 := by omega
                    have x2 : (k : Int) + 1 < (X : Int) + 1 := by omega
                    have x2' : (k : Int) < (X : Int) := by omega
                    have x4 : (u : Int) < (X : Int) + 1 := by omega
                    have x7 : q < Y + 1 := by omega
                    have x8 : u < X + 1 := by omega
                    have x9 : k < X := by omega
                    obtain ⟨g1, ga, gb, gc, gd⟩ := HTB.out (k + 1) (by omega) (by omega)
                    obtain ⟨g2, gf, gg, gh, gi⟩ := HTB.out u (by omega) (by omega)
                    have d0 := (HBl.out.cell (p := ⟨w.heap.size + 1, k + 1, none⟩) (by show w.heap.size + 1 < wo.heap.size; omega)).trans gc
                    have d1 := (HBl.out.cell (p := ⟨g1, q, none⟩) (by show g1 < wo.heap.size; omega)).trans (gd q hq1 hlq)
                    have d2 := (HBl.out.cell (p := ⟨w.heap.size + 1, u, none⟩) (by show w.heap.size + 1 < wo.heap.size; omega)).trans gh
                    have d3 := (HBl.out.cell (p := ⟨g2, q, none⟩) (by show g2 < wo.heap.size; omega)).trans (gi q hq1 hlq)
                    have sW := HBl.out.size
                    have zz1 : g1 < wr.heap.size := by omega
                    have zz2 : g2 < wr.heap.size := by omega
                    have zz3 : w.heap.size + 1 < wr.heap.size := by omega
                    clear ga gb gc gd gf gg gh gi r1 r2 hu
                    generalize M (k + 1) q = v1 at *
                    generalize M u q = v2 at *
                    generalize downO M p q k (start0 p q) = sk at *
                    generalize timesC (timesC v1 v2) ((capN (bin AT A1) : Nat) : Int) = tv at *
                    have wsum : IntKind.i64.wrap (sk + tv) = sk + tv := IntWalk.i64_in _ (by omega)
                    have wsum2 : wrap64 (sk + tv) = sk + tv := IntWalk.wrap64_in _ (by omega)
                    go_wp2
                    refine wp_region_held_drew (S := (fun w' => w'.cell? ⟨w.heap.size + 1, k + 1, none⟩ = some (.slice (some ⟨g1, 0, none⟩) (Y + 1) (Y + 1)) ∧ w'.cell? ⟨g1, q, none⟩ = some (.int .i64 v1) ∧ w'.cell? ⟨w.heap.size + 1, u, none⟩ = some (.slice (some ⟨g2, 0, none⟩) (Y + 1) (Y + 1)) ∧ w'.cell? ⟨g2, q, none⟩ = some (.int .i64 v2))) (by kernel_rfl) ?_ (fun hHeld => ?_)
                    · ((try dsimp only); (repeat' apply And.intro); all_goals ((repeat (first | (with_reducible refine cell_drew ?_) | (with_reducible refine cell_drewN _ ?_) | ((with_reducible refine cell_alloc ?_ ?_); · first | omega | (simp; done) | (simp; omega) | assumption) | ((with_reducible refine cell_set ?_ ?_); · first | (intro e; injection e; omega) | (intro e; simp at e; done) | (intro e; simp at e; omega)))); first | assumption | (simp; done)))
                    refine reg_on (i := 0) (d := 41) (v := ?rv1) rfl rfl (by kernel_rfl) (by kernel_rfl) (by kernel_rfl) (fun _ _ _ h => h) (by rfl) ?ry1 (by assumption) ?rr1
                    case ry1 => (intro wz hSw; (try dsimp only at hSw); go_simp; try with_reducible rfl)
                    (try simp only [Act.put, List.setIfInBounds_toArray, List.set_cons_zero, List.set_cons_succ])
                    refine reg_on (i := 1) (d := 42) (v := ?rv2) rfl rfl (by kernel_rfl) (by kernel_rfl) (by kernel_rfl) (fun _ _ _ h => h) (by rfl) ?ry2 (by assumption) ?rr2
                    case ry2 => (intro wz hSw; (try dsimp only at hSw); go_simp; try with_reducible rfl)
                    (try simp only [Act.put, List.setIfInBounds_toArray, List.set_cons_zero, List.set_cons_succ])
                    refine reg_on (i := 2) (d := 43) (v := ?rv3) rfl rfl (by kernel_rfl) (by kernel_rfl) (by kernel_rfl) (fun _ _ _ h => h) (by rfl) ?ry3 (by assumption) ?rr3
                    case ry3 => (intro wz hSw; (try dsimp only at hSw); go_simp; try with_reducible rfl)
                    (try simp only [Act.put, List.setIfInBounds_toArray, List.set_cons_zero, List.set_cons_succ])
                    refine reg_on (i := 3) (d := 44) (v := ?rv4) rfl rfl (by kernel_rfl) (by kernel_rfl) (by kernel_rfl) (fun _ _ _ h => h) (by rfl) ?ry4 (by assumption) ?rr4
                    case ry4 => (intro wz hSw; (try dsimp only at hSw); go_simp; try with_reducible rfl)
                    (try simp only [Act.put, List.setIfInBounds_toArray, List.set_cons_zero, List.set_cons_succ])
                    refine reg_on (i := 4) (d := 45) (v := ?rv5) rfl rfl (by kernel_rfl) (by kernel_rfl) (by kernel_rfl) (fun _ _ _ h => h) (by rfl) ?ry5 (by assumption) ?rr5
                    case ry5 => (intro wz hSw; (try dsimp only at hSw); go_simp; try with_reducible rfl)
                    (try simp only [Act.put, List.setIfInBounds_toArray, List.set_cons_zero, List.set_cons_succ])
                    refine reg_on (i := 5) (d := 46) (v := ?rv6) rfl rfl (by kernel_rfl) (by kernel_rfl) (by kernel_rfl) (fun _ _ _ h => h) (by rfl) ?ry6 (by assumption) ?rr6
                    case ry6 => (intro wz hSw; (try dsimp only at hSw); go_simp; try with_reducible rfl)
                    (try simp only [Act.put, List.setIfInBounds_toArray, List.set_cons_zero, List.set_cons_succ])
                    refine reg_on (i := 6) (d := 47) (v := ?rv7) rfl rfl (by kernel_rfl) (by kernel_rfl) (by kernel_rfl) (fun _ _ _ h => h) (by rfl) ?ry7 (by assumption) ?rr7
                    case ry7 => (intro wz hSw; (try dsimp only at hSw); go_simp; try with_reducible rfl)
                    (try simp only [Act.put, List.setIfInBounds_toArray, List.set_cons_zero, List.set_cons_succ])
                    refine reg_on (i := 7) (d := 48) (v := ?rv8) rfl rfl (by kernel_rfl) (by kernel_rfl) (by kernel_rfl) (fun _ _ _ h => h) (by rfl) ?ry8 (by assumption) ?rr8
                    case ry8 => (intro wz hSw; (try dsimp only at hSw); go_simp; try with_reducible rfl)
                    (try simp only [Act.put, List.setIfInBounds_toArray, List.set_cons_zero, List.set_cons_succ])
                    refine reg_on (i := 8) (d := 49) (v := ?rv9) rfl rfl (by kernel_rfl) (by kernel_rfl) (by kernel_rfl) (fun _ _ _ h => h) (by rfl) ?ry9 (by assumption) ?rr9
                    case ry9 => (intro wz hSw; (try dsimp only at hSw); go_simp; try with_reducible rfl)
                    (try simp only [Act.put, List.setIfInBounds_toArray, List.set_cons_zero, List.set_cons_succ])
                    refine reg_on (i := 9) (d := 50) (v := ?rv10) rfl rfl (by kernel_rfl) (by kernel_rfl) (by kernel_rfl) (fun _ _ _ h => h) (by rfl) ?ry10 (by assumption) ?rr10
                    case ry10 => (intro wz hSw; (try dsimp only at hSw); go_simp; try with_reducible rfl)
                    (try simp only [Act.put, List.setIfInBounds_toArray, List.set_cons_zero, List.set_cons_succ])
                    refine reg_on (i := 10) (d := 51) (v := ?rv11) rfl rfl (by kernel_rfl) (by kernel_rfl) (by kernel_rfl) (fun _ _ _ h => h) (by rfl) ?ry11 (by assumption) ?rr11
                    case ry11 => (intro wz hSw; (try dsimp only at hSw); go_simp; try with_reducible rfl)
                    (try simp only [Act.put, List.setIfInBounds_toArray, List.set_cons_zero, List.set_cons_succ])
                    refine reg_on (i := 11) (d := 52) (v := ?rv12) rfl rfl (by kernel_rfl) (by kernel_rfl) (by kernel_rfl) (fun _ _ _ h => h) (by rfl) ?ry12 (by assumption) ?rr12
                    case ry12 => (intro wz hSw; (try dsimp only at hSw); go_simp; try with_reducible rfl)
                    (try simp only [Act.put, List.setIfInBounds_toArray, List.set_cons_zero, List.set_cons_succ])
                    refine reg_on (i := 12) (d := 53) (v := ?rv13) rfl rfl (by kernel_rfl) (by kernel_rfl) (by kernel_rfl) (fun _ _ _ h => h) (by rfl) ?ry13 (by assumption) ?rr13
                    case ry13 => (intro wz hSw; (try dsimp only at hSw); go_simp; try with_reducible rfl)
                    (try simp only [Act.put, List.setIfInBounds_toArray, List.set_cons_zero, List.set_cons_succ])
                    refine reg_on (i := 13) (d := 54) (v := ?rv14) rfl rfl (by kernel_rfl) (by kernel_rfl) (by kernel_rfl) (fun _ _ _ h => h) (by rfl) ?ry14 (by assumption) ?rr14
                    case ry14 => (intro wz hSw; (try dsimp only at hSw); go_simp; try with_reducible rfl)
                    (try simp only [Act.put, List.setIfInBounds_toArray, List.set_cons_zero, List.set_cons_succ])
                    refine reg_on (i := 14) (d := 55) (v := ?rv15) rfl rfl (by kernel_rfl) (by kernel_rfl) (by kernel_rfl) (fun _ _ _ h => h) (by rfl) ?ry15 (by assumption) ?rr15
                    case ry15 => (intro wz hSw; (try dsimp only at hSw); go_simp; try with_reducible rfl)
                    (try simp only [Act.put, List.setIfInBounds_toArray, List.set_cons_zero, List.set_cons_succ])
                    refine reg_on (i := 15) (d := 56) (v := ?rv16) rfl rfl (by kernel_rfl) (by kernel_rfl) (by kernel_rfl) (fun _ _ _ h => h) (by rfl) ?ry16 (by assumption) ?rr16
                    case ry16 => (intro wz hSw; (try dsimp only at hSw); go_simp; try with_reducible rfl)
                    (try simp only [Act.put, List.setIfInBounds_toArray, List.set_cons_zero, List.set_cons_succ])
                    refine reg_on (i := 16) (d := 57) (v := ?rv17) rfl rfl (by kernel_rfl) (by kernel_rfl) (by kernel_rfl) (fun _ _ _ h => h) (by rfl) ?ry17 (by assumption) ?rr17
                    case ry17 => (intro wz hSw; (try dsimp only at hSw); go_simp; try with_reducible rfl)
                    (try simp only [Act.put, List.setIfInBounds_toArray, List.set_cons_zero, List.set_cons_succ])
                    refine reg_on (i := 17) (d := 58) (v := ?rv18) rfl rfl (by kernel_rfl) (by kernel_rfl) (by kernel_rfl) (fun _ _ _ h => h) (by rfl) ?ry18 (by assumption) ?rr18
                    case ry18 => (intro wz hSw; (try dsimp only at hSw); go_simp; try with_reducible rfl)
                    (try simp only [Act.put, List.setIfInBounds_toArray, List.set_cons_zero, List.set_cons_succ])
                    refine reg_on (i := 18) (d := 59) (v := ?rv19) rfl rfl (by kernel_rfl) (by kernel_rfl) (by kernel_rfl) (fun _ _ _ h => h) (by rfl) ?ry19 (by assumption) ?rr19
                    case ry19 => (intro wz hSw; (try dsimp only at hSw); go_simp; try with_reducible rfl)
                    (try simp only [Act.put, List.setIfInBounds_toArray, List.set_cons_zero, List.set_cons_succ])
                    refine reg_on (i := 19) (d := 60) (v := ?rv20) rfl rfl (by kernel_rfl) (by kernel_rfl) (by kernel_rfl) (fun _ _ _ h => h) (by rfl) ?ry20 (by assumption) ?rr20
                    case ry20 => (intro wz hSw; (try dsimp only at hSw); go_simp; try with_reducible rfl)
                    (try simp only [Act.put, List.setIfInBounds_toArray, List.set_cons_zero, List.set_cons_succ])
                    refine reg_on (i := 20) (d := 61) (v := ?rv21) rfl rfl (by kernel_rfl) (by kernel_rfl) (by kernel_rfl) (fun _ _ _ h => h) (by rfl) ?ry21 (by assumption) ?rr21
                    case ry21 => (intro wz hSw; (try dsimp only at hSw); go_simp; try with_reducible rfl)
                    (try simp only [Act.put, List.setIfInBounds_toArray, List.set_cons_zero, List.set_cons_succ])
                    refine reg_on (i := 21) (d := 62) (v := ?rv22) rfl rfl (by kernel_rfl) (by kernel_rfl) (by kernel_rfl) (fun _ _ _ h => h) (by rfl) ?ry22 (by assumption) ?rr22
                    case ry22 => (intro wz hSw; (try dsimp only at hSw); go_simp; try with_reducible rfl)
                    (try simp only [Act.put, List.setIfInBounds_toArray, List.set_cons_zero, List.set_cons_succ])
                    refine reg_on (i := 22) (d := 63) (v := ?rv23) rfl rfl (by kernel_rfl) (by kernel_rfl) (by kernel_rfl) (fun _ _ _ h => h) (by rfl) ?ry23 (by assumption) ?rr23
                    case ry23 => (intro wz hSw; (try dsimp only at hSw); go_simp; try with_reducible rfl)
                    (try simp only [Act.put, List.setIfInBounds_toArray, List.set_cons_zero, List.set_cons_succ])
                    refine reg_on (i := 23) (d := 64) (v := ?rv24) rfl rfl (by kernel_rfl) (by kernel_rfl) (by kernel_rfl) (fun _ _ _ h => h) (by rfl) ?ry24 (by assumption) ?rr24
                    case ry24 => (intro wz hSw; (try dsimp only at hSw); go_simp; try with_reducible rfl)
                    (try simp only [Act.put, List.setIfInBounds_toArray, List.set_cons_zero, List.set_cons_succ])
                    refine reg_on (i := 24) (d := 65) (v := ?rv25) rfl rfl (by kernel_rfl) (by kernel_rfl) (by kernel_rfl) (fun _ _ _ h => h) (by rfl) ?ry25 (by assumption) ?rr25
                    case ry25 => (intro wz hSw; (try dsimp only at hSw); go_simp; try with_reducible rfl)
                    (try simp only [Act.put, List.setIfInBounds_toArray, List.set_cons_zero, List.set_cons_succ])
                    refine reg_on (i := 25) (d := 66) (v := ?rv26) rfl rfl (by kernel_rfl) (by kernel_rfl) (by kernel_rfl) (fun _ _ _ h => h) (by rfl) ?ry26 (by assumption) ?rr26
                    case ry26 => (intro wz hSw; (try dsimp only at hSw); go_simp; try with_reducible rfl)
                    (try simp only [Act.put, List.setIfInBounds_toArray, List.set_cons_zero, List.set_cons_succ])
                    refine wpAnyH_ready (rs := [26]) (by kernel_rfl) (by simp) ?_
                    refine AllReadyH.cons rfl (fun K hK => ?_) AllReadyH.nil
                    go_simp
                    go_at_call 43; refine (HBB.out _).mono ?_; rintro e w7 ⟨rfl, hb7⟩; have s7 := hb7.size; (try simp at s7); have z0 : w7.cell? ⟨w.heap.size + 1, k + 1, none⟩ = some (.slice (some ⟨g1, 0, none⟩) (Y + 1) (Y + 1)) := (hb7.cell (p := ⟨w.heap.size + 1, k + 1, none⟩) (by first | (simp; done) | (simp; omega) | omega)).trans (by first | assumption | (go_split_ands; assumption)); have z1 : w7.cell? ⟨g1, q, none⟩ = some (.int .i64 v1) := (hb7.cell (p := ⟨g1, q, none⟩) (by first | (simp; done) | (simp; omega) | omega)).trans (by first | assumption | (go_split_ands; assumption)); have z2 : w7.cell? ⟨w.heap.size + 1, u, none⟩ = some (.slice (some ⟨g2, 0, none⟩) (Y + 1) (Y + 1)) := (hb7.cell (p := ⟨w.heap.size + 1, u, none⟩) (by first | (simp; done) | (simp; omega) | omega)).trans (by first | assumption | (go_split_ands; assumption)); have z3 : w7.cell? ⟨g2, q, none⟩ = some (.int .i64 v2) := (hb7.cell (p := ⟨g2, q, none⟩) (by first | (simp; done) | (simp; omega) | omega)).trans (by first | assumption | (go_split_ands; assumption))
                    refine hK.out _ _ ?_ (fun hHeld => ?_)
                    · ((try dsimp only); (repeat' apply And.intro); all_goals ((repeat (first | (with_reducible refine cell_drew ?_) | (with_reducible refine cell_drewN _ ?_) | ((with_reducible refine cell_alloc ?_ ?_); · first | omega | (simp; done) | (simp; omega) | assumption) | ((with_reducible refine cell_set ?_ ?_); · first | (intro e; injection e; omega) | (intro e; simp at e; done) | (intro e; simp at e; omega)))); first | assumption | (simp; done)))
                    clear hK K
                    (try simp only [Act.put, List.setIfInBounds_toArray, List.set_cons_zero, List.set_cons_succ])
                    refine reg_on (i := 27) (d := 68) (v := ?rv28) rfl rfl (by kernel_rfl) (by kernel_rfl) (by kernel_rfl) (fun _ _ _ h => h) (by rfl) ?ry28 (by assumption) ?rr28
                    case ry28 => (intro wz hSw; (try dsimp only at hSw); go_simp; try with_reducible rfl)
                    (try simp only [Act.put, List.setIfInBounds_toArray, List.set_cons_zero, List.set_cons_succ])
                    refine wpAnyH_ready (rs := [28]) (by kernel_rfl) (by simp) ?_
                    refine AllReadyH.cons rfl (fun K hK => ?_) AllReadyH.nil
                    go_simp
                    go_at_call 42; refine (leastC_any _ _ (by omega) (by omega)).mono ?_; rintro e wx ⟨rfl, rfl⟩
                    refine hK.out _ _ ?_ (fun hHeld => ?_)
                    · ((try dsimp only); (repeat' apply And.intro); all_goals ((repeat (first | (with_reducible refine cell_drew ?_) | (with_reducible refine cell_drewN _ ?_) | ((with_reducible refine cell_alloc ?_ ?_); · first | omega | (simp; done) | (simp; omega) | assumption) | ((with_reducible refine cell_set ?_ ?_); · first | (intro e; injection e; omega) | (intro e; simp at e; done) | (intro e; simp at e; omega)))); first | assumption | (simp; done)))
                    clear hK K
                    (try simp only [Act.put, List.setIfInBounds_toArray, List.set_cons_zero, List.set_cons_succ])
                    refine reg_on (i := 29) (d := 9) (v := ?rv30) rfl rfl (by kernel_rfl) (by kernel_rfl) (by kernel_rfl) (fun _ _ _ h => h) (by rfl) ?ry30 (by assumption) ?rr30
                    case ry30 => (intro wz hSw; (try dsimp only at hSw); go_simp; try with_reducible rfl)
                    (try simp only [Act.put, List.setIfInBounds_toArray, List.set_cons_zero, List.set_cons_succ])
                    refine wpAnyH_done (by kernel_rfl) ?_ _
                    have BLD := Lib.hid (bcall (by have := HBl.out.size; show wo.heap.size ≤ wr.heap.size; omega) hb7 HBl.out.drew)
                    clear hb7 d0 d1 d2 d3 HBB HBl
                    go_wp2
                    go_roundw
                    case rel => exact ⟨k + 1, by omega, by go_num, by rw [HST.out], BLD.out⟩
                    case measure => simp [intOf]; omega
                  · have hkx : k = p - 1 := by omega
                    have hnle : decide ((k : Int) + 1 < (p : Int)) = false := by simp; omega
                    have HBD := Lib.hid HBl.out
                    clear HBl
                    subst hkx
                    have HS2 : Hid (0 ≤ downO M p q (p - 1) (start0 p q) ∧ downO M p q (p - 1) (start0 p q) ≤ 1000000000000001) := by have h := HDN.out (p - 1) (start0 p q) (by omega) HS1.out.1 HS1.out.2; exact ⟨h.1, h.2.1⟩
                    go_wp2
                    go_loopw [9, 11] (fun s i wr => ∃ k : Nat, k + 1 ≤ q ∧ i = .int .i64 ((k : Int) + 1) ∧ s = .int .i64 (acrossO M p q k (downO M p q (p - 1) (start0 p q))) ∧ Below wo.heap.size wo wr) (fun _ i _ => q + 1 - (intOf i).toNat)
                    case atStart => exact ⟨0, by omega, rfl, rfl, HBD.out⟩
                    case round =>
                      obtain ⟨k, hk, rfl, rfl, hBl⟩ := hrel
                      have HBl := Lib.hid hBl
                      clear hBl
                      by_cases hltk : k + 1 < q
                      · have hlti : (k : Int) + 1 < (q : Int) := by omega
                        obtain ⟨u, hu⟩ : ∃ u, u = q - (k + 1) := ⟨_, rfl⟩
                        have hin := HAC.out k (downO M p q (p - 1) (start0 p q)) (by omega) HS2.out.1 HS2.out.2
                        obtain ⟨i1', i2', _⟩ := hin
                        have HST : Hid (acrossO M p q (k + 1) (downO M p q (p - 1) (start0 p q)) = capS (acrossO M p q k (downO M p q (p - 1) (start0 p q)) + timesC (timesC (M p (k + 1)) (M p u)) (binC (p * (k + 1) - 1) (p * u - 1)))) := by simp only [Hid, acrossO, tO, hu]
                        have r1 : InR (M p (k + 1)) := HG.out _ _ (by omega) (by omega) (by omega) (by omega) (by omega)
                        have r2 : InR (M p u) := HG.out _ _ (by omega) (by omega) (by omega) (by omega) (by omega)
                        have hA1 : 1 ≤ p * (k + 1) ∧ p * (k + 1) ≤ 144 := ⟨Nat.mul_pos (by omega) (by omega), Nat.le_trans (Nat.mul_le_mul (show p ≤ 12 by omega) (show k + 1 ≤ 12 by omega)) (by omega)⟩
                        have hA2 : 1 ≤ p * u ∧ p * u ≤ 144 := ⟨Nat.mul_pos (by omega) (by omega), Nat.le_trans (Nat.mul_le_mul (show p ≤ 12 by omega) (show u ≤ 12 by omega)) (by omega)⟩
                        have hAT : p * q = p * (k + 1) + p * u := by rw [← Nat.mul_add]; congr 1; omega
                        have hPQ : p * q ≤ 144 := Nat.le_trans (Nat.mul_le_mul (show p ≤ 12 by omega) (show q ≤ 12 by omega)) (by omega)
                        obtain ⟨A1, hAe1⟩ : ∃ A, A = p * (k + 1) - 1 := ⟨_, rfl⟩
                        obtain ⟨A2, hAe2⟩ : ∃ A, A = p * u - 1 := ⟨_, rfl⟩
                        obtain ⟨AT, hAeT⟩ : ∃ A, A = A1 + A2 := ⟨_, rfl⟩
                        have wm1 : IntKind.i64.wrap (((k : Int) + 1) * (p : Int)) = (A1 : Int) + 1 := by rw [show ((k : Int) + 1) * (p : Int) = ((p * (k + 1) : Nat) : Int) by (rw [Nat.mul_comm]; simp), IntWalk.i64_in _ (by omega)]; omega
                        have wm3 : IntKind.i64.wrap ((p : Int) * (q : Int)) = (AT : Int) + 2 := by rw [← Int.natCast_mul, IntWalk.i64_in _ (by omega)]; omega
                        rw [← hAe1, ← hAe2] at HST
                        have e5 : binC A1 A2 = ((capN (bin AT A1) : Nat) : Int) := by rw [hAeT]; rfl
                        rw [e5] at HST
                        have HBB := Lib.hid (fun (wx : World) => brBoth_yes (M p (k + 1)) (M p u) A1 AT wx r1 r2 (by omega) (by omega))
                        have tin := timesC_in (timesC_in r1 r2) (capN_in (n := AT) (k := A1) (by omega))
                        obtain ⟨t1, t2⟩ := tin
                        have bA1 : A1 ≤ 143 := by omega
                        have bAT : AT ≤ 143 := by omega
                        have wA1 : IntKind.i64.wrap (A1 : Int) = (A1 : Int) := IntWalk.i64_in _ (by omega)
                        have wAT : IntKind.i64.wrap (AT : Int) = (AT : Int) := IntWalk.i64_in _ (by omega)
                        clear hA1 hA2 hAT hPQ hAe1 hAe2 hAeT e5
                        have wsub : IntKind.i64.wrap ((q : Int) - ((k : Int) + 1)) = (u : Int) := by rw [IntWalk.i64_in _ (by omega)]; omega
                        have ek : ((k : Int) + 1).toNat = k + 1 := by omega
                        have x1 : (0 : Int) ≤ (k : Int) + 1 := by omega
                        have x3 : (0 : Int) ≤ (u : Int) := by omega
                        have x5 : (0 : Int) ≤ (q : Int) := by omega
                        have x6 : (q : Int) < (Y : Int) + 1 := by omega
                        have x2 : (k : Int) + 1 < (Y : Int) + 1 := by omega
                        have x2' : (k : Int) < (Y : Int) := by omega
                        have x4 : (u : Int) < (Y : Int) + 1 := by omega
                        have x8 : u < Y + 1 := by omega
                        have x9 : k < Y := by omega
                        have d0 := (HBl.out.cell (p := ⟨gr, k + 1, none⟩) (by show gr < wo.heap.size; omega)).trans (HRW.out (k + 1) (by omega) (by omega))
                        have d1 := (HBl.out.cell (p := ⟨gr, u, none⟩) (by show gr < wo.heap.size; omega)).trans (HRW.out u (by omega) (by omega))
                        have sW := HBl.out.size
                        have zz1 : gr < wr.heap.size := by omega
                        clear r1 r2 hu
                        generalize M p (k + 1) = v1 at *
                        generalize M p u = v2 at *
                        generalize acrossO M p q k (downO M p q (p - 1) (start0 p q)) = sk at *
                        generalize timesC (timesC v1 v2) ((capN (bin AT A1) : Nat) : Int) = tv at *
                        have wsum : IntKind.i64.wrap (sk + tv) = sk + tv := IntWalk.i64_in _ (by omega)
                        have wsum2 : wrap64 (sk + tv) = sk + tv := IntWalk.wrap64_in _ (by omega)
                        go_wp2
                        refine wp_region_held_drew (S := (fun w' => w'.cell? ⟨gr, k + 1, none⟩ = some (.int .i64 v1) ∧ w'.cell? ⟨gr, u, none⟩ = some (.int .i64 v2))) (by kernel_rfl) ?_ (fun hHeld => ?_)
                        · ((try dsimp only); (repeat' apply And.intro); all_goals ((repeat (first | (with_reducible refine cell_drew ?_) | (with_reducible refine cell_drewN _ ?_) | ((with_reducible refine cell_alloc ?_ ?_); · first | omega | (simp; done) | (simp; omega) | assumption) | ((with_reducible refine cell_set ?_ ?_); · first | (intro e; injection e; omega) | (intro e; simp at e; done) | (intro e; simp at e; omega)))); first | assumption | (simp; done)))
                        refine reg_on (i := 0) (d := 75) (v := ?rv31) rfl rfl (by kernel_rfl) (by kernel_rfl) (by kernel_rfl) (fun _ _ _ h => h) (by rfl) ?ry31 (by assumption) ?rr31
                        case ry31 => (intro wz hSw; (try dsimp only at hSw); go_simp; try with_reducible rfl)
                        (try simp only [Act.put, List.setIfInBounds_toArray, List.set_cons_zero, List.set_cons_succ])
                        refine reg_on (i := 1) (d := 76) (v := ?rv32) rfl rfl (by kernel_rfl) (by kernel_rfl) (by kernel_rfl) (fun _ _ _ h => h) (by rfl) ?ry32 (by assumption) ?rr32
                        case ry32 => (intro wz hSw; (try dsimp only at hSw); go_simp; try with_reducible rfl)
                        (try simp only [Act.put, List.setIfInBounds_toArray, List.set_cons_zero, List.set_cons_succ])
                        refine reg_on (i := 2) (d := 77) (v := ?rv33) rfl rfl (by kernel_rfl) (by kernel_rfl) (by kernel_rfl) (fun _ _ _ h => h) (by rfl) ?ry33 (by assumption) ?rr33
                        case ry33 => (intro wz hSw; (try dsimp only at hSw); go_simp; try with_reducible rfl)
                        (try simp only [Act.put, List.setIfInBounds_toArray, List.set_cons_zero, List.set_cons_succ])
                        refine reg_on (i := 3) (d := 78) (v := ?rv34) rfl rfl (by kernel_rfl) (by kernel_rfl) (by kernel_rfl) (fun _ _ _ h => h) (by rfl) ?ry34 (by assumption) ?rr34
                        case ry34 => (intro wz hSw; (try dsimp only at hSw); go_simp; try with_reducible rfl)
                        (try simp only [Act.put, List.setIfInBounds_toArray, List.set_cons_zero, List.set_cons_succ])
                        refine reg_on (i := 4) (d := 79) (v := ?rv35) rfl rfl (by kernel_rfl) (by kernel_rfl) (by kernel_rfl) (fun _ _ _ h => h) (by rfl) ?ry35 (by assumption) ?rr35
                        case ry35 => (intro wz hSw; (try dsimp only at hSw); go_simp; try with_reducible rfl)
                        (try simp only [Act.put, List.setIfInBounds_toArray, List.set_cons_zero, List.set_cons_succ])
                        refine reg_on (i := 5) (d := 80) (v := ?rv36) rfl rfl (by kernel_rfl) (by kernel_rfl) (by kernel_rfl) (fun _ _ _ h => h) (by rfl) ?ry36 (by assumption) ?rr36
                        case ry36 => (intro wz hSw; (try dsimp only at hSw); go_simp; try with_reducible rfl)
                        (try simp only [Act.put, List.setIfInBounds_toArray, List.set_cons_zero, List.set_cons_succ])
                        refine reg_on (i := 6) (d := 81) (v := ?rv37) rfl rfl (by kernel_rfl) (by kernel_rfl) (by kernel_rfl) (fun _ _ _ h => h) (by rfl) ?ry37 (by assumption) ?rr37
                        case ry37 => (intro wz hSw; (try dsimp only at hSw); go_simp; try with_reducible rfl)
                        (try simp only [Act.put, List.setIfInBounds_toArray, List.set_cons_zero, List.set_cons_succ])
                        refine reg_on (i := 7) (d := 82) (v := ?rv38) rfl rfl (by kernel_rfl) (by kernel_rfl) (by kernel_rfl) (fun _ _ _ h => h) (by rfl) ?ry38 (by assumption) ?rr38
                        case ry38 => (intro wz hSw; (try dsimp only at hSw); go_simp; try with_reducible rfl)
                        (try simp only [Act.put, List.setIfInBounds_toArray, List.set_cons_zero, List.set_cons_succ])
                        refine reg_on (i := 8) (d := 83) (v := ?rv39) rfl rfl (by kernel_rfl) (by kernel_rfl) (by kernel_rfl) (fun _ _ _ h => h) (by rfl) ?ry39 (by assumption) ?rr39
                        case ry39 => (intro wz hSw; (try dsimp only at hSw); go_simp; try with_reducible rfl)
                        (try simp only [Act.put, List.setIfInBounds_toArray, List.set_cons_zero, List.set_cons_succ])
                        refine reg_on (i := 9) (d := 84) (v := ?rv40) rfl rfl (by kernel_rfl) (by kernel_rfl) (by kernel_rfl) (fun _ _ _ h => h) (by rfl) ?ry40 (by assumption) ?rr40
                        case ry40 => (intro wz hSw; (try dsimp only at hSw); go_simp; try with_reducible rfl)
                        (try simp only [Act.put, List.setIfInBounds_toArray, List.set_cons_zero, List.set_cons_succ])
                        refine reg_on (i := 10) (d := 85) (v := ?rv41) rfl rfl (by kernel_rfl) (by kernel_rfl) (by kernel_rfl) (fun _ _ _ h => h) (by rfl) ?ry41 (by assumption) ?rr41
                        case ry41 => (intro wz hSw; (try dsimp only at hSw); go_simp; try with_reducible rfl)
                        (try simp only [Act.put, List.setIfInBounds_toArray, List.set_cons_zero, List.set_cons_succ])
                        refine reg_on (i := 11) (d := 86) (v := ?rv42) rfl rfl (by kernel_rfl) (by kernel_rfl) (by kernel_rfl) (fun _ _ _ h => h) (by rfl) ?ry42 (by assumption) ?rr42
                        case ry42 => (intro wz hSw; (try dsimp only at hSw); go_simp; try with_reducible rfl)
                        (try simp only [Act.put, List.setIfInBounds_toArray, List.set_cons_zero, List.set_cons_succ])
                        refine reg_on (i := 12) (d := 87) (v := ?rv43) rfl rfl (by kernel_rfl) (by kernel_rfl) (by kernel_rfl) (fun _ _ _ h => h) (by rfl) ?ry43 (by assumption) ?rr43
                        case ry43 => (intro wz hSw; (try dsimp only at hSw); go_simp; try with_reducible rfl)
                        (try simp only [Act.put, List.setIfInBounds_toArray, List.set_cons_zero, List.set_cons_succ])
                        refine reg_on (i := 13) (d := 88) (v := ?rv44) rfl rfl (by kernel_rfl) (by kernel_rfl) (by kernel_rfl) (fun _ _ _ h => h) (by rfl) ?ry44 (by assumption) ?rr44
                        case ry44 => (intro wz hSw; (try dsimp only at hSw); go_simp; try with_reducible rfl)
                        (try simp only [Act.put, List.setIfInBounds_toArray, List.set_cons_zero, List.set_cons_succ])
                        refine reg_on (i := 14) (d := 89) (v := ?rv45) rfl rfl (by kernel_rfl) (by kernel_rfl) (by kernel_rfl) (fun _ _ _ h => h) (by rfl) ?ry45 (by assumption) ?rr45
                        case ry45 => (intro wz hSw; (try dsimp only at hSw); go_simp; try with_reducible rfl)
                        (try simp only [Act.put, List.setIfInBounds_toArray, List.set_cons_zero, List.set_cons_succ])
                        refine reg_on (i := 15) (d := 90) (v := ?rv46) rfl rfl (by kernel_rfl) (by kernel_rfl) (by kernel_rfl) (fun _ _ _ h => h) (by rfl) ?ry46 (by assumption) ?rr46
                        case ry46 => (intro wz hSw; (try dsimp only at hSw); go_simp; try with_reducible rfl)
                        (try simp only [Act.put, List.setIfInBounds_toArray, List.set_cons_zero, List.set_cons_succ])
                        refine reg_on (i := 16) (d := 91) (v := ?rv47) rfl rfl (by kernel_rfl) (by kernel_rfl) (by kernel_rfl) (fun _ _ _ h => h) (by rfl) ?ry47 (by assumption) ?rr47
                        case ry47 => (intro wz hSw; (try dsimp only at hSw); go_simp; try with_reducible rfl)
                        (try simp only [Act.put, List.setIfInBounds_toArray, List.set_cons_zero, List.set_cons_succ])
                        refine reg_on (i := 17) (d := 92) (v := ?rv48) rfl rfl (by kernel_rfl) (by kernel_rfl) (by kernel_rfl) (fun _ _ _ h => h) (by rfl) ?ry48 (by assumption) ?rr48
                        case ry48 => (intro wz hSw; (try dsimp only at hSw); go_simp; try with_reducible rfl)
                        (try simp only [Act.put, List.setIfInBounds_toArray, List.set_cons_zero, List.set_cons_succ])
                        refine reg_on (i := 18) (d := 93) (v := ?rv49) rfl rfl (by kernel_rfl) (by kernel_rfl) (by kernel_rfl) (fun _ _ _ h => h) (by rfl) ?ry49 (by assumption) ?rr49
                        case ry49 => (intro wz hSw; (try dsimp only at hSw); go_simp; try with_reducible rfl)
                        (try simp only [Act.put, List.setIfInBounds_toArray, List.set_cons_zero, List.set_cons_succ])
                        refine reg_on (i := 19) (d := 94) (v := ?rv50) rfl rfl (by kernel_rfl) (by kernel_rfl) (by kernel_rfl) (fun _ _ _ h => h) (by rfl) ?ry50 (by assumption) ?rr50
                        case ry50 => (intro wz hSw; (try dsimp only at hSw); go_simp; try with_reducible rfl)
                        (try simp only [Act.put, List.setIfInBounds_toArray, List.set_cons_zero, List.set_cons_succ])
                        refine wpAnyH_ready (rs := [20]) (by kernel_rfl) (by simp) ?_
                        refine AllReadyH.cons rfl (fun K hK => ?_) AllReadyH.nil
                        go_simp
                        go_at_call 43; refine (HBB.out _).mono ?_; rintro e w7 ⟨rfl, hb7⟩; have s7 := hb7.size; (try simp at s7); have z0 : w7.cell? ⟨gr, k + 1, none⟩ = some (.int .i64 v1) := (hb7.cell (p := ⟨gr, k + 1, none⟩) (by first | (simp; done) | (simp; omega) | omega)).trans (by first | assumption | (go_split_ands; assumption)); have z1 : w7.cell? ⟨gr, u, none⟩ = some (.int .i64 v2) := (hb7.cell (p := ⟨gr, u, none⟩) (by first | (simp; done) | (simp; omega) | omega)).trans (by first | assumption | (go_split_ands; assumption))
                        refine hK.out _ _ ?_ (fun hHeld => ?_)
                        · ((try dsimp only); (repeat' apply And.intro); all_goals ((repeat (first | (with_reducible refine cell_drew ?_) | (with_reducible refine cell_drewN _ ?_) | ((with_reducible refine cell_alloc ?_ ?_); · first | omega | (simp; done) | (simp; omega) | assumption) | ((with_reducible refine cell_set ?_ ?_); · first | (intro e; injection e; omega) | (intro e; simp at e; done) | (intro e; simp at e; omega)))); first | assumption | (simp; done)))
                        clear hK K
                        (try simp only [Act.put, List.setIfInBounds_toArray, List.set_cons_zero, List.set_cons_succ])
                        refine reg_on (i := 21) (d := 96) (v := ?rv52) rfl rfl (by kernel_rfl) (by kernel_rfl) (by kernel_rfl) (fun _ _ _ h => h) (by rfl) ?ry52 (by assumption) ?rr52
                        case ry52 => (intro wz hSw; (try dsimp only at hSw); go_simp; try with_reducible rfl)
                        (try simp only [Act.put, List.setIfInBounds_toArray, List.set_cons_zero, List.set_cons_succ])
                        refine wpAnyH_ready (rs := [22]) (by kernel_rfl) (by simp) ?_
                        refine AllReadyH.cons rfl (fun K hK => ?_) AllReadyH.nil
                        go_simp
                        go_at_call 42; refine (leastC_any _ _ (by omega) (by omega)).mono ?_; rintro e wx ⟨rfl, rfl⟩
                        refine hK.out _ _ ?_ (fun hHeld => ?_)
                        · ((try dsimp only); (repeat' apply And.intro); all_goals ((repeat (first | (with_reducible refine cell_drew ?_) | (with_reducible refine cell_drewN _ ?_) | ((with_reducible refine cell_alloc ?_ ?_); · first | omega | (simp; done) | (simp; omega) | assumption) | ((with_reducible refine cell_set ?_ ?_); · first | (intro e; injection e; omega) | (intro e; simp at e; done) | (intro e; simp at e; omega)))); first | assumption | (simp; done)))
                        clear hK K
                        (try simp only [Act.put, List.setIfInBounds_toArray, List.set_cons_zero, List.set_cons_succ])
                        refine reg_on (i := 23) (d := 9) (v := ?rv54) rfl rfl (by kernel_rfl) (by kernel_rfl) (by kernel_rfl) (fun _ _ _ h => h) (by rfl) ?ry54 (by assumption) ?rr54
                        case ry54 => (intro wz hSw; (try dsimp only at hSw); go_simp; try with_reducible rfl)
                        (try simp only [Act.put, List.setIfInBounds_toArray, List.set_cons_zero, List.set_cons_succ])
                        refine wpAnyH_done (by kernel_rfl) ?_ _
                        have BLD := Lib.hid (bcall (by have := HBl.out.size; show wo.heap.size ≤ wr.heap.size; omega) hb7 HBl.out.drew)
                        clear hb7 d0 d1 HBB HBl
                        go_wp2
                        go_roundw
                        case rel => exact ⟨k + 1, by omega, by go_num, by rw [HST.out], BLD.out⟩
                        case measure => simp [intOf]; omega
                      · have hkx : k = q - 1 := by omega
                        have hnle : decide ((k : Int) + 1 < (q : Int)) = false := by simp; omega
                        have HBE := Lib.hid HBl.out
                        clear HBl
                        subst hkx
                        have hstep := HSTP.out
                        generalize acrossO M p q (q - 1) (downO M p q (p - 1) (start0 p q)) = v at *
                        have hown2 := own_later HOR.out HBE.out (Nat.le_refl _)
                        have hrlen : L.length = (Y + 1) * 1 := hown2.1
                        have a0 := hown2.cellAt q (by omega)
                        rw [List.getElem?_eq_getElem (by omega)] at a0
                        have f0 := hown2.frozenAt q
                        generalize L[q] = old at a0
                        have st := hown2.stored q (.int .i64 v)
                        have hT2 := (own_later HOT.out HBE.out (Nat.le_refl _)).kept st.2 (.inr (by simp [Value.ownBlock]; omega))
                        have hTB2 := ((HTB.out.below HBE.out (by omega) (by omega)).set (f := gr) (k := q) (v := .int .i64 v) hgt (Nat.le_refl _)).upd (p := p) (q := q) (v := v)
                        have hbl2 := (HBW.out.trans (HBE.out.mono (by omega))).setCell (p := ⟨gr, q, none⟩) (by show w.heap.size + 1 ≤ gr; omega) (.int .i64 v)
                        have hL2 : ∀ j, 1 ≤ j → j < q + 1 → (L.set q (.int .i64 v))[j]? = some (.int .i64 (upd M p q v p j)) := by
                          intro j j1 j2
                          by_cases e : j = q
                          · subst e
                            rw [upd_same]
                            simp [List.getElem?_set]
                            omega
                          · rw [upd_other (by omega), List.getElem?_set_ne (fun h => e h.symm)]
                            exact HLL.out j j1 (by omega)
                        have ST := Lib.hid st.1
                        have HT2 := Lib.hid hT2
                        have HTB2 := Lib.hid hTB2
                        have HBL2 := Lib.hid hbl2
                        have HL2 := Lib.hid hL2
                        have HDP2 : Hid (DoneO (upd M p q v) Y p (q + 1)) := by have h := HDP.out; rw [hstep] at h; exact h
                        have y1 : (q : Int) < (Y : Int) + 1 := by omega
                        have y2 : q < Y + 1 := by omega
                        clear st hT2 hTB2 hbl2 hL2 hown2 hrlen hstep
                        go_wp2
                        go_roundw
                        case rel => exact ⟨q + 1, upd M p q v, L.set q (.int .i64 v), by omega, by omega, by go_num, HT2.out, ST.out, HL2.out, HTB2.out, HDP2.out, HBL2.out⟩
                        case measure => simp [intOf]; omega
              · have HS0 : Hid (start0 p q = 0) := if_neg h11
                have HS1 : Hid (0 ≤ start0 p q ∧ start0 p q ≤ 1000000000000001) := by simp only [Hid]; rw [HS0.out]; omega
                have e11 : ((p : Int) * (q : Int) == 1) = false := mul_ne1n hp1 hq1 h11
                clear h11
                go_wp2
                clear e1 wpq
                obtain ⟨wo, rfl⟩ : ∃ wo : World, wo = wr := ⟨_, rfl⟩
                go_loopw [9, 10] (fun s i wr => ∃ k : Nat, k + 1 ≤ p ∧ i = .int .i64 ((k : Int) + 1) ∧ s = .int .i64 (downO M p q k (start0 p q)) ∧ Below wo.heap.size wo wr) (fun _ i _ => p + 1 - (intOf i).toNat)
                case atStart => exact ⟨0, by omega, rfl, by rw [HS0.out]; rfl, Below.refl _ _⟩
                case round =>
                  obtain ⟨k, hk, rfl, rfl, hBl⟩ := hrel
                  have HBl := Lib.hid hBl
                  clear hBl
                  by_cases hltk : k + 1 < p
                  · have hlti : (k : Int) + 1 < (p : Int) := by omega
                    obtain ⟨u, hu⟩ : ∃ u, u = p - (k + 1) := ⟨_, rfl⟩
                    have hin := HDN.out k (start0 p q) (by omega) HS1.out.1 HS1.out.2
                    obtain ⟨i1', i2', _⟩ := hin
                    have HST : Hid (downO M p q (k + 1) (start0 p q) = capS (downO M p q k (start0 p q) + timesC (timesC (M (k + 1) q) (M u q)) (binC ((k + 1) * q - 1) (u * q - 1)))) := by simp only [Hid, downO, tO, hu]
                    have r1 : InR (M (k + 1) q) := HG.out _ _ (by omega) (by omega) (by omega) (by omega) (by omega)
                    have r2 : InR (M u q) := HG.out _ _ (by omega) (by omega) (by omega) (by omega) (by omega)
                    have hA1 : 1 ≤ (k + 1) * q ∧ (k + 1) * q ≤ 144 := ⟨Nat.mul_pos (by omega) (by omega), Nat.le_trans (Nat.mul_le_mul (show k + 1 ≤ 12 by omega) (show q ≤ 12 by omega)) (by omega)⟩
                    have hA2 : 1 ≤ u * q ∧ u * q ≤ 144 := ⟨Nat.mul_pos (by omega) (by omega), Nat.le_trans (Nat.mul_le_mul (show u ≤ 12 by omega) (show q ≤ 12 by omega)) (by omega)⟩
                    have hAT : p * q = (k + 1) * q + u * q := by rw [← Nat.add_mul]; congr 1; omega
                    have hPQ : p * q ≤ 144 := Nat.le_trans (Nat.mul_le_mul (show p ≤ 12 by omega) (show q ≤ 12 by omega)) (by omega)
                    obtain ⟨A1, hAe1⟩ : ∃ A, A = (k + 1) * q - 1 := ⟨_, rfl⟩
                    obtain ⟨A2, hAe2⟩ : ∃ A, A = u * q - 1 := ⟨_, rfl⟩
                    obtain ⟨AT, hAeT⟩ : ∃ A, A = A1 + A2 := ⟨_, rfl⟩
                    have wm1 : IntKind.i64.wrap (((k : Int) + 1) * (q : Int)) = (A1 : Int) + 1 := by rw [show ((k : Int) + 1) * (q : Int) = (((k + 1) * q : Nat) : Int) by simp, IntWalk.i64_in _ (by omega)]; omega
                    have wm3 : IntKind.i64.wrap ((p : Int) * (q : Int)) = (AT : Int) + 2 := by rw [← Int.natCast_mul, IntWalk.i64_in _ (by omega)]; omega
                    rw [← hAe1, ← hAe2] at HST
                    have e5 : binC A1 A2 = ((capN (bin AT A1) : Nat) : Int) := by rw [hAeT]; rfl
                    rw [e5] at HST
                    have HBB := Lib.hid (fun (wx : World) => brBoth_yes (M (k + 1) q) (M u q) A1 AT wx r1 r2 (by omega) (by omega))
                    have tin := timesC_in (timesC_in r1 r2) (capN_in (n := AT) (k := A1) (by omega))
                    obtain ⟨t1, t2⟩ := tin
                    have bA1 : A1 ≤ 143 := by omega
                    have bAT : AT ≤ 143 := by omega
                    have wA1 : IntKind.i64.wrap (A1 : Int) = (A1 : Int) := IntWalk.i64_in _ (by omega)
                    have wAT : IntKind.i64.wrap (AT : Int) = (AT : Int) := IntWalk.i64_in _ (by omega)
                    clear hA1 hA2 hAT hPQ hAe1 hAe2 hAeT e5
                    have wsub : IntKind.i64.wrap ((p : Int) - ((k : Int) + 1)) = (u : Int) := by rw [IntWalk.i64_in _ (by omega)]; omega
                    have ek : ((k : Int) + 1).toNat = k + 1 := by omega
                    have x1 : (0 : Int) ≤ (k : Int) + 1 := by omega
                    have x3 : (0 : Int) ≤ (u : Int) := by omega
                    have x5 : (0 : Int) ≤ (q : Int) := by omega
                    have x6 : (q : Int) < (Y : Int) + 1 := by omega
                    have x2 : (k : Int) + 1 < (X : Int) + 1 := by omega
                    have x2' : (k : Int) < (X : Int) := by omega
                    have x4 : (u : Int) < (X : Int) + 1 := by omega
                    have x7 : q < Y + 1 := by omega
                    have x8 : u < X + 1 := by omega
                    have x9 : k < X := by omega
                    obtain ⟨g1, ga, gb, gc, gd⟩ := HTB.out (k + 1) (by omega) (by omega)
                    obtain ⟨g2, gf, gg, gh, gi⟩ := HTB.out u (by omega) (by omega)
                    have d0 := (HBl.out.cell (p := ⟨w.heap.size + 1, k + 1, none⟩) (by show w.heap.size + 1 < wo.heap.size; omega)).trans gc
                    have d1 := (HBl.out.cell (p := ⟨g1, q, none⟩) (by show g1 < wo.heap.size; omega)).trans (gd q hq1 hlq)
                    have d2 := (HBl.out.cell (p := ⟨w.heap.size + 1, u, none⟩) (by show w.heap.size + 1 < wo.heap.size; omega)).trans gh
                    have d3 := (HBl.out.cell (p := ⟨g2, q, none⟩) (by show g2 < wo.heap.size; omega)).trans (gi q hq1 hlq)
                    have sW := HBl.out.size
                    have zz1 : g1 < wr.heap.size := by omega
                    have zz2 : g2 < wr.heap.size := by omega
                    have zz3 : w.heap.size + 1 < wr.heap.size := by omega
                    clear ga gb gc gd gf gg gh gi r1 r2 hu
                    generalize M (k + 1) q = v1 at *
                    generalize M u q = v2 at *
                    generalize downO M p q k (start0 p q) = sk at *
                    generalize timesC (timesC v1 v2) ((capN (bin AT A1) : Nat) : Int) = tv at *
                    have wsum : IntKind.i64.wrap (sk + tv) = sk + tv := IntWalk.i64_in _ (by omega)
                    have wsum2 : wrap64 (sk + tv) = sk + tv := IntWalk.wrap64_in _ (by omega)
                    go_wp2
                    refine wp_region_held_drew (S := (fun w' => w'.cell? ⟨w.heap.size + 1, k + 1, none⟩ = some (.slice (some ⟨g1, 0, none⟩) (Y + 1) (Y + 1)) ∧ w'.cell? ⟨g1, q, none⟩ = some (.int .i64 v1) ∧ w'.cell? ⟨w.heap.size + 1, u, none⟩ = some (.slice (some ⟨g2, 0, none⟩) (Y + 1) (Y + 1)) ∧ w'.cell? ⟨g2, q, none⟩ = some (.int .i64 v2))) (by kernel_rfl) ?_ (fun hHeld => ?_)
                    · ((try dsimp only); (repeat' apply And.intro); all_goals ((repeat (first | (with_reducible refine cell_drew ?_) | (with_reducible refine cell_drewN _ ?_) | ((with_reducible refine cell_alloc ?_ ?_); · first | omega | (simp; done) | (simp; omega) | assumption) | ((with_reducible refine cell_set ?_ ?_); · first | (intro e; injection e; omega) | (intro e; simp at e; done) | (intro e; simp at e; omega)))); first | assumption | (simp; done)))
                    refine reg_on (i := 0) (d := 41) (v := ?rv55) rfl rfl (by kernel_rfl) (by kernel_rfl) (by kernel_rfl) (fun _ _ _ h => h) (by rfl) ?ry55 (by assumption) ?rr55
                    case ry55 => (intro wz hSw; (try dsimp only at hSw); go_simp; try with_reducible rfl)
                    (try simp only [Act.put, List.setIfInBounds_toArray, List.set_cons_zero, List.set_cons_succ])
                    refine reg_on (i := 1) (d := 42) (v := ?rv56) rfl rfl (by kernel_rfl) (by kernel_rfl) (by kernel_rfl) (fun _ _ _ h => h) (by rfl) ?ry56 (by assumption) ?rr56
                    case ry56 => (intro wz hSw; (try dsimp only at hSw); go_simp; try with_reducible rfl)
                    (try simp only [Act.put, List.setIfInBounds_toArray, List.set_cons_zero, List.set_cons_succ])
                    refine reg_on (i := 2) (d := 43) (v := ?rv57) rfl rfl (by kernel_rfl) (by kernel_rfl) (by kernel_rfl) (fun _ _ _ h => h) (by rfl) ?ry57 (by assumption) ?rr57
                    case ry57 => (intro wz hSw; (try dsimp only at hSw); go_simp; try with_reducible rfl)
                    (try simp only [Act.put, List.setIfInBounds_toArray, List.set_cons_zero, List.set_cons_succ])
                    refine reg_on (i := 3) (d := 44) (v := ?rv58) rfl rfl (by kernel_rfl) (by kernel_rfl) (by kernel_rfl) (fun _ _ _ h => h) (by rfl) ?ry58 (by assumption) ?rr58
                    case ry58 => (intro wz hSw; (try dsimp only at hSw); go_simp; try with_reducible rfl)
                    (try simp only [Act.put, List.setIfInBounds_toArray, List.set_cons_zero, List.set_cons_succ])
                    refine reg_on (i := 4) (d := 45) (v := ?rv59) rfl rfl (by kernel_rfl) (by kernel_rfl) (by kernel_rfl) (fun _ _ _ h => h) (by rfl) ?ry59 (by assumption) ?rr59
                    case ry59 => (intro wz hSw; (try dsimp only at hSw); go_simp; try with_reducible rfl)
                    (try simp only [Act.put, List.setIfInBounds_toArray, List.set_cons_zero, List.set_cons_succ])
                    refine reg_on (i := 5) (d := 46) (v := ?rv60) rfl rfl (by kernel_rfl) (by kernel_rfl) (by kernel_rfl) (fun _ _ _ h => h) (by rfl) ?ry60 (by assumption) ?rr60
                    case ry60 => (intro wz hSw; (try dsimp only at hSw); go_simp; try with_reducible rfl)
                    (try simp only [Act.put, List.setIfInBounds_toArray, List.set_cons_zero, List.set_cons_succ])
                    refine reg_on (i := 6) (d := 47) (v := ?rv61) rfl rfl (by kernel_rfl) (by kernel_rfl) (by kernel_rfl) (fun _ _ _ h => h) (by rfl) ?ry61 (by assumption) ?rr61
                    case ry61 => (intro wz hSw; (try dsimp only at hSw); go_simp; try with_reducible rfl)
                    (try simp only [Act.put, List.setIfInBounds_toArray, List.set_cons_zero, List.set_cons_succ])
                    refine reg_on (i := 7) (d := 48) (v := ?rv62) rfl rfl (by kernel_rfl) (by kernel_rfl) (by kernel_rfl) (fun _ _ _ h => h) (by rfl) ?ry62 (by assumption) ?rr62
                    case ry62 => (intro wz hSw; (try dsimp only at hSw); go_simp; try with_reducible rfl)
                    (try simp only [Act.put, List.setIfInBounds_toArray, List.set_cons_zero, List.set_cons_succ])
                    refine reg_on (i := 8) (d := 49) (v := ?rv63) rfl rfl (by kernel_rfl) (by kernel_rfl) (by kernel_rfl) (fun _ _ _ h => h) (by rfl) ?ry63 (by assumption) ?rr63
                    case ry63 => (intro wz hSw; (try dsimp only at hSw); go_simp; try with_reducible rfl)
                    (try simp only [Act.put, List.setIfInBounds_toArray, List.set_cons_zero, List.set_cons_succ])
                    refine reg_on (i := 9) (d := 50) (v := ?rv64) rfl rfl (by kernel_rfl) (by kernel_rfl) (by kernel_rfl) (fun _ _ _ h => h) (by rfl) ?ry64 (by assumption) ?rr64
                    case ry64 => (intro wz hSw; (try dsimp only at hSw); go_simp; try with_reducible rfl)
                    (try simp only [Act.put, List.setIfInBounds_toArray, List.set_cons_zero, List.set_cons_succ])
                    refine reg_on (i := 10) (d := 51) (v := ?rv65) rfl rfl (by kernel_rfl) (by kernel_rfl) (by kernel_rfl) (fun _ _ _ h => h) (by rfl) ?ry65 (by assumption) ?rr65
                    case ry65 => (intro wz hSw; (try dsimp only at hSw); go_simp; try with_reducible rfl)
                    (try simp only [Act.put, List.setIfInBounds_toArray, List.set_cons_zero, List.set_cons_succ])
                    refine reg_on (i := 11) (d := 52) (v := ?rv66) rfl rfl (by kernel_rfl) (by kernel_rfl) (by kernel_rfl) (fun _ _ _ h => h) (by rfl) ?ry66 (by assumption) ?rr66
                    case ry66 => (intro wz hSw; (try dsimp only at hSw); go_simp; try with_reducible rfl)
                    (try simp only [Act.put, List.setIfInBounds_toArray, List.set_cons_zero, List.set_cons_succ])
                    refine reg_on (i := 12) (d := 53) (v := ?rv67) rfl rfl (by kernel_rfl) (by kernel_rfl) (by kernel_rfl) (fun _ _ _ h => h) (by rfl) ?ry67 (by assumption) ?rr67
                    case ry67 => (intro wz hSw; (try dsimp only at hSw); go_simp; try with_reducible rfl)
                    (try simp only [Act.put, List.setIfInBounds_toArray, List.set_cons_zero, List.set_cons_succ])
                    refine reg_on (i := 13) (d := 54) (v := ?rv68) rfl rfl (by kernel_rfl) (by kernel_rfl) (by kernel_rfl) (fun _ _ _ h => h) (by rfl) ?ry68 (by assumption) ?rr68
                    case ry68 => (intro wz hSw; (try dsimp only at hSw); go_simp; try with_reducible rfl)
                    (try simp only [Act.put, List.setIfInBounds_toArray, List.set_cons_zero, List.set_cons_succ])
                    refine reg_on (i := 14) (d := 55) (v := ?rv69) rfl rfl (by kernel_rfl) (by kernel_rfl) (by kernel_rfl) (fun _ _ _ h => h) (by rfl) ?ry69 (by assumption) ?rr69
                    case ry69 => (intro wz hSw; (try dsimp only at hSw); go_simp; try with_reducible rfl)
                    (try simp only [Act.put, List.setIfInBounds_toArray, List.set_cons_zero, List.set_cons_succ])
                    refine reg_on (i := 15) (d := 56) (v := ?rv70) rfl rfl (by kernel_rfl) (by kernel_rfl) (by kernel_rfl) (fun _ _ _ h => h) (by rfl) ?ry70 (by assumption) ?rr70
                    case ry70 => (intro wz hSw; (try dsimp only at hSw); go_simp; try with_reducible rfl)
                    (try simp only [Act.put, List.setIfInBounds_toArray, List.set_cons_zero, List.set_cons_succ])
                    refine reg_on (i := 16) (d := 57) (v := ?rv71) rfl rfl (by kernel_rfl) (by kernel_rfl) (by kernel_rfl) (fun _ _ _ h => h) (by rfl) ?ry71 (by assumption) ?rr71
                    case ry71 => (intro wz hSw; (try dsimp only at hSw); go_simp; try with_reducible rfl)
                    (try simp only [Act.put, List.setIfInBounds_toArray, List.set_cons_zero, List.set_cons_succ])
                    refine reg_on (i := 17) (d := 58) (v := ?rv72) rfl rfl (by kernel_rfl) (by kernel_rfl) (by kernel_rfl) (fun _ _ _ h => h) (by rfl) ?ry72 (by assumption) ?rr72
                    case ry72 => (intro wz hSw; (try dsimp only at hSw); go_simp; try with_reducible rfl)
                    (try simp only [Act.put, List.setIfInBounds_toArray, List.set_cons_zero, List.set_cons_succ])
                    refine reg_on (i := 18) (d := 59) (v := ?rv73) rfl rfl (by kernel_rfl) (by kernel_rfl) (by kernel_rfl) (fun _ _ _ h => h) (by rfl) ?ry73 (by assumption) ?rr73
                    case ry73 => (intro wz hSw; (try dsimp only at hSw); go_simp; try with_reducible rfl)
                    (try simp only [Act.put, List.setIfInBounds_toArray, List.set_cons_zero, List.set_cons_succ])
                    refine reg_on (i := 19) (d := 60) (v := ?rv74) rfl rfl (by kernel_rfl) (by kernel_rfl) (by kernel_rfl) (fun _ _ _ h => h) (by rfl) ?ry74 (by assumption) ?rr74
                    case ry74 => (intro wz hSw; (try dsimp only at hSw); go_simp; try with_reducible rfl)
                    (try simp only [Act.put, List.setIfInBounds_toArray, List.set_cons_zero, List.set_cons_succ])
                    refine reg_on (i := 20) (d := 61) (v := ?rv75) rfl rfl (by kernel_rfl) (by kernel_rfl) (by kernel_rfl) (fun _ _ _ h => h) (by rfl) ?ry75 (by assumption) ?rr75
                    case ry75 => (intro wz hSw; (try dsimp only at hSw); go_simp; try with_reducible rfl)
                    (try simp only [Act.put, List.setIfInBounds_toArray, List.set_cons_zero, List.set_cons_succ])
                    refine reg_on (i := 21) (d := 62) (v := ?rv76) rfl rfl (by kernel_rfl) (by kernel_rfl) (by kernel_rfl) (fun _ _ _ h => h) (by rfl) ?ry76 (by assumption) ?rr76
                    case ry76 => (intro wz hSw; (try dsimp only at hSw); go_simp; try with_reducible rfl)
                    (try simp only [Act.put, List.setIfInBounds_toArray, List.set_cons_zero, List.set_cons_succ])
                    refine reg_on (i := 22) (d := 63) (v := ?rv77) rfl rfl (by kernel_rfl) (by kernel_rfl) (by kernel_rfl) (fun _ _ _ h => h) (by rfl) ?ry77 (by assumption) ?rr77
                    case ry77 => (intro wz hSw; (try dsimp only at hSw); go_simp; try with_reducible rfl)
                    (try simp only [Act.put, List.setIfInBounds_toArray, List.set_cons_zero, List.set_cons_succ])
                    refine reg_on (i := 23) (d := 64) (v := ?rv78) rfl rfl (by kernel_rfl) (by kernel_rfl) (by kernel_rfl) (fun _ _ _ h => h) (by rfl) ?ry78 (by assumption) ?rr78
                    case ry78 => (intro wz hSw; (try dsimp only at hSw); go_simp; try with_reducible rfl)
                    (try simp only [Act.put, List.setIfInBounds_toArray, List.set_cons_zero, List.set_cons_succ])
                    refine reg_on (i := 24) (d := 65) (v := ?rv79) rfl rfl (by kernel_rfl) (by kernel_rfl) (by kernel_rfl) (fun _ _ _ h => h) (by rfl) ?ry79 (by assumption) ?rr79
                    case ry79 => (intro wz hSw; (try dsimp only at hSw); go_simp; try with_reducible rfl)
                    (try simp only [Act.put, List.setIfInBounds_toArray, List.set_cons_zero, List.set_cons_succ])
                    refine reg_on (i := 25) (d := 66) (v := ?rv80) rfl rfl (by kernel_rfl) (by kernel_rfl) (by kernel_rfl) (fun _ _ _ h => h) (by rfl) ?ry80 (by assumption) ?rr80
                    case ry80 => (intro wz hSw; (try dsimp only at hSw); go_simp; try with_reducible rfl)
                    (try simp only [Act.put, List.setIfInBounds_toArray, List.set_cons_zero, List.set_cons_succ])
                    refine wpAnyH_ready (rs := [26]) (by kernel_rfl) (by simp) ?_
                    refine AllReadyH.cons rfl (fun K hK => ?_) AllReadyH.nil
                    go_simp
                    go_at_call 43; refine (HBB.out _).mono ?_; rintro e w7 ⟨rfl, hb7⟩; have s7 := hb7.size; (try simp at s7); have z0 : w7.cell? ⟨w.heap.size + 1, k + 1, none⟩ = some (.slice (some ⟨g1, 0, none⟩) (Y + 1) (Y + 1)) := (hb7.cell (p := ⟨w.heap.size + 1, k + 1, none⟩) (by first | (simp; done) | (simp; omega) | omega)).trans (by first | assumption | (go_split_ands; assumption)); have z1 : w7.cell? ⟨g1, q, none⟩ = some (.int .i64 v1) := (hb7.cell (p := ⟨g1, q, none⟩) (by first | (simp; done) | (simp; omega) | omega)).trans (by first | assumption | (go_split_ands; assumption)); have z2 : w7.cell? ⟨w.heap.size + 1, u, none⟩ = some (.slice (some ⟨g2, 0, none⟩) (Y + 1) (Y + 1)) := (hb7.cell (p := ⟨w.heap.size + 1, u, none⟩) (by first | (simp; done) | (simp; omega) | omega)).trans (by first | assumption | (go_split_ands; assumption)); have z3 : w7.cell? ⟨g2, q, none⟩ = some (.int .i64 v2) := (hb7.cell (p := ⟨g2, q, none⟩) (by first | (simp; done) | (simp; omega) | omega)).trans (by first | assumption | (go_split_ands; assumption))
                    refine hK.out _ _ ?_ (fun hHeld => ?_)
                    · ((try dsimp only); (repeat' apply And.intro); all_goals ((repeat (first | (with_reducible refine cell_drew ?_) | (with_reducible refine cell_drewN _ ?_) | ((with_reducible refine cell_alloc ?_ ?_); · first | omega | (simp; done) | (simp; omega) | assumption) | ((with_reducible refine cell_set ?_ ?_); · first | (intro e; injection e; omega) | (intro e; simp at e; done) | (intro e; simp at e; omega)))); first | assumption | (simp; done)))
                    clear hK K
                    (try simp only [Act.put, List.setIfInBounds_toArray, List.set_cons_zero, List.set_cons_succ])
                    refine reg_on (i := 27) (d := 68) (v := ?rv82) rfl rfl (by kernel_rfl) (by kernel_rfl) (by kernel_rfl) (fun _ _ _ h => h) (by rfl) ?ry82 (by assumption) ?rr82
                    case ry82 => (intro wz hSw; (try dsimp only at hSw); go_simp; try with_reducible rfl)
                    (try simp only [Act.put, List.setIfInBounds_toArray, List.set_cons_zero, List.set_cons_succ])
                    refine wpAnyH_ready (rs := [28]) (by kernel_rfl) (by simp) ?_
                    refine AllReadyH.cons rfl (fun K hK => ?_) AllReadyH.nil
                    go_simp
                    go_at_call 42; refine (leastC_any _ _ (by omega) (by omega)).mono ?_; rintro e wx ⟨rfl, rfl⟩
                    refine hK.out _ _ ?_ (fun hHeld => ?_)
                    · ((try dsimp only); (repeat' apply And.intro); all_goals ((repeat (first | (with_reducible refine cell_drew ?_) | (with_reducible refine cell_drewN _ ?_) | ((with_reducible refine cell_alloc ?_ ?_); · first | omega | (simp; done) | (simp; omega) | assumption) | ((with_reducible refine cell_set ?_ ?_); · first | (intro e; injection e; omega) | (intro e; simp at e; done) | (intro e; simp at e; omega)))); first | assumption | (simp; done)))
                    clear hK K
                    (try simp only [Act.put, List.setIfInBounds_toArray, List.set_cons_zero, List.set_cons_succ])
                    refine reg_on (i := 29) (d := 9) (v := ?rv84) rfl rfl (by kernel_rfl) (by kernel_rfl) (by kernel_rfl) (fun _ _ _ h => h) (by rfl) ?ry84 (by assumption) ?rr84
                    case ry84 => (intro wz hSw; (try dsimp only at hSw); go_simp; try with_reducible rfl)
                    (try simp only [Act.put, List.setIfInBounds_toArray, List.set_cons_zero, List.set_cons_succ])
                    refine wpAnyH_done (by kernel_rfl) ?_ _
                    have BLD := Lib.hid (bcall (by have := HBl.out.size; show wo.heap.size ≤ wr.heap.size; omega) hb7 HBl.out.drew)
                    clear hb7 d0 d1 d2 d3 HBB HBl
                    go_wp2
                    go_roundw
                    case rel => exact ⟨k + 1, by omega, by go_num, by rw [HST.out], BLD.out⟩
                    case measure => simp [intOf]; omega
                  · have hkx : k = p - 1 := by omega
                    have hnle : decide ((k : Int) + 1 < (p : Int)) = false := by simp; omega
                    have HBD := Lib.hid HBl.out
                    clear HBl
                    subst hkx
                    have HS2 : Hid (0 ≤ downO M p q (p - 1) (start0 p q) ∧ downO M p q (p - 1) (start0 p q) ≤ 1000000000000001) := by have h := HDN.out (p - 1) (start0 p q) (by omega) HS1.out.1 HS1.out.2; exact ⟨h.1, h.2.1⟩
                    go_wp2
                    go_loopw [9, 11] (fun s i wr => ∃ k : Nat, k + 1 ≤ q ∧ i = .int .i64 ((k : Int) + 1) ∧ s = .int .i64 (acrossO M p q k (downO M p q (p - 1) (start0 p q))) ∧ Below wo.heap.size wo wr) (fun _ i _ => q + 1 - (intOf i).toNat)
                    case atStart => exact ⟨0, by omega, rfl, rfl, HBD.out⟩
                    case round =>
                      obtain ⟨k, hk, rfl, rfl, hBl⟩ := hrel
                      have HBl := Lib.hid hBl
                      clear hBl
                      by_cases hltk : k + 1 < q
                      · have hlti : (k : Int) + 1 < (q : Int) := by omega
                        obtain ⟨u, hu⟩ : ∃ u, u = q - (k + 1) := ⟨_, rfl⟩
                        have hin := HAC.out k (downO M p q (p - 1) (start0 p q)) (by omega) HS2.out.1 HS2.out.2
                        obtain ⟨i1', i2', _⟩ := hin
                        have HST : Hid (acrossO M p q (k + 1) (downO M p q (p - 1) (start0 p q)) = capS (acrossO M p q k (downO M p q (p - 1) (start0 p q)) + timesC (timesC (M p (k + 1)) (M p u)) (binC (p * (k + 1) - 1) (p * u - 1)))) := by simp only [Hid, acrossO, tO, hu]
                        have r1 : InR (M p (k + 1)) := HG.out _ _ (by omega) (by omega) (by omega) (by omega) (by omega)
                        have r2 : InR (M p u) := HG.out _ _ (by omega) (by omega) (by omega) (by omega) (by omega)
                        have hA1 : 1 ≤ p * (k + 1) ∧ p * (k + 1) ≤ 144 := ⟨Nat.mul_pos (by omega) (by omega), Nat.le_trans (Nat.mul_le_mul (show p ≤ 12 by omega) (show k + 1 ≤ 12 by omega)) (by omega)⟩
                        have hA2 : 1 ≤ p * u ∧ p * u ≤ 144 := ⟨Nat.mul_pos (by omega) (by omega), Nat.le_trans (Nat.mul_le_mul (show p ≤ 12 by omega) (show u ≤ 12 by omega)) (by omega)⟩
                        have hAT : p * q = p * (k + 1) + p * u := by rw [← Nat.mul_add]; congr 1; omega
                        have hPQ : p * q ≤ 144 := Nat.le_trans (Nat.mul_le_mul (show p ≤ 12 by omega) (show q ≤ 12 by omega)) (by omega)
                        obtain ⟨A1, hAe1⟩ : ∃ A, A = p * (k + 1) - 1 := ⟨_, rfl⟩
                        obtain ⟨A2, hAe2⟩ : ∃ A, A = p * u - 1 := ⟨_, rfl⟩
                        obtain ⟨AT, hAeT⟩ : ∃ A, A = A1 + A2 := ⟨_, rfl⟩
                        have wm1 : IntKind.i64.wrap (((k : Int) + 1) * (p : Int)) = (A1 : Int) + 1 := by rw [show ((k : Int) + 1) * (p : Int) = ((p * (k + 1) : Nat) : Int) by (rw [Nat.mul_comm]; simp), IntWalk.i64_in _ (by omega)]; omega
                        have wm3 : IntKind.i64.wrap ((p : Int) * (q : Int)) = (AT : Int) + 2 := by rw [← Int.natCast_mul, IntWalk.i64_in _ (by omega)]; omega
                        rw [← hAe1, ← hAe2] at HST
                        have e5 : binC A1 A2 = ((capN (bin AT A1) : Nat) : Int) := by rw [hAeT]; rfl
                        rw [e5] at HST
                        have HBB := Lib.hid (fun (wx : World) => brBoth_yes (M p (k + 1)) (M p u) A1 AT wx r1 r2 (by omega) (by omega))
                        have tin := timesC_in (timesC_in r1 r2) (capN_in (n := AT) (k := A1) (by omega))
                        obtain ⟨t1, t2⟩ := tin
                        have bA1 : A1 ≤ 143 := by omega
                        have bAT : AT ≤ 143 := by omega
                        have wA1 : IntKind.i64.wrap (A1 : Int) = (A1 : Int) := IntWalk.i64_in _ (by omega)
                        have wAT : IntKind.i64.wrap (AT : Int) = (AT : Int) := IntWalk.i64_in _ (by omega)
                        clear hA1 hA2 hAT hPQ hAe1 hAe2 hAeT e5
                        have wsub : IntKind.i64.wrap ((q : Int) - ((k : Int) + 1)) = (u : Int) := by rw [IntWalk.i64_in _ (by omega)]; omega
                        have ek : ((k : Int) + 1).toNat = k + 1 := by omega
                        have x1 : (0 : Int) ≤ (k : Int) + 1 := by omega
                        have x3 : (0 : Int) ≤ (u : Int) := by omega
                        have x5 : (0 : Int) ≤ (q : Int) := by omega
                        have x6 : (q : Int) < (Y : Int) + 1 := by omega
                        have x2 : (k : Int) + 1 < (Y : Int) + 1 := by omega
                        have x2' : (k : Int) < (Y : Int) := by omega
                        have x4 : (u : Int) < (Y : Int) + 1 := by omega
                        have x8 : u < Y + 1 := by omega
                        have x9 : k < Y := by omega
                        have d0 := (HBl.out.cell (p := ⟨gr, k + 1, none⟩) (by show gr < wo.heap.size; omega)).trans (HRW.out (k + 1) (by omega) (by omega))
                        have d1 := (HBl.out.cell (p := ⟨gr, u, none⟩) (by show gr < wo.heap.size; omega)).trans (HRW.out u (by omega) (by omega))
                        have sW := HBl.out.size
                        have zz1 : gr < wr.heap.size := by omega
                        clear r1 r2 hu
                        generalize M p (k + 1) = v1 at *
                        generalize M p u = v2 at *
                        generalize acrossO M p q k (downO M p q (p - 1) (start0 p q)) = sk at *
                        generalize timesC (timesC v1 v2) ((capN (bin AT A1) : Nat) : Int) = tv at *
                        have wsum : IntKind.i64.wrap (sk + tv) = sk + tv := IntWalk.i64_in _ (by omega)
                        have wsum2 : wrap64 (sk + tv) = sk + tv := IntWalk.wrap64_in _ (by omega)
                        go_wp2
                        refine wp_region_held_drew (S := (fun w' => w'.cell? ⟨gr, k + 1, none⟩ = some (.int .i64 v1) ∧ w'.cell? ⟨gr, u, none⟩ = some (.int .i64 v2))) (by kernel_rfl) ?_ (fun hHeld => ?_)
                        · ((try dsimp only); (repeat' apply And.intro); all_goals ((repeat (first | (with_reducible refine cell_drew ?_) | (with_reducible refine cell_drewN _ ?_) | ((with_reducible refine cell_alloc ?_ ?_); · first | omega | (simp; done) | (simp; omega) | assumption) | ((with_reducible refine cell_set ?_ ?_); · first | (intro e; injection e; omega) | (intro e; simp at e; done) | (intro e; simp at e; omega)))); first | assumption | (simp; done)))
                        refine reg_on (i := 0) (d := 75) (v := ?rv85) rfl rfl (by kernel_rfl) (by kernel_rfl) (by kernel_rfl) (fun _ _ _ h => h) (by rfl) ?ry85 (by assumption) ?rr85
                        case ry85 => (intro wz hSw; (try dsimp only at hSw); go_simp; try with_reducible rfl)
                        (try simp only [Act.put, List.setIfInBounds_toArray, List.set_cons_zero, List.set_cons_succ])
                        refine reg_on (i := 1) (d := 76) (v := ?rv86) rfl rfl (by kernel_rfl) (by kernel_rfl) (by kernel_rfl) (fun _ _ _ h => h) (by rfl) ?ry86 (by assumption) ?rr86
                        case ry86 => (intro wz hSw; (try dsimp only at hSw); go_simp; try with_reducible rfl)
                        (try simp only [Act.put, List.setIfInBounds_toArray, List.set_cons_zero, List.set_cons_succ])
                        refine reg_on (i := 2) (d := 77) (v := ?rv87) rfl rfl (by kernel_rfl) (by kernel_rfl) (by kernel_rfl) (fun _ _ _ h => h) (by rfl) ?ry87 (by assumption) ?rr87
                        case ry87 => (intro wz hSw; (try dsimp only at hSw); go_simp; try with_reducible rfl)
                        (try simp only [Act.put, List.setIfInBounds_toArray, List.set_cons_zero, List.set_cons_succ])
                        refine reg_on (i := 3) (d := 78) (v := ?rv88) rfl rfl (by kernel_rfl) (by kernel_rfl) (by kernel_rfl) (fun _ _ _ h => h) (by rfl) ?ry88 (by assumption) ?rr88
                        case ry88 => (intro wz hSw; (try dsimp only at hSw); go_simp; try with_reducible rfl)
                        (try simp only [Act.put, List.setIfInBounds_toArray, List.set_cons_zero, List.set_cons_succ])
                        refine reg_on (i := 4) (d := 79) (v := ?rv89) rfl rfl (by kernel_rfl) (by kernel_rfl) (by kernel_rfl) (fun _ _ _ h => h) (by rfl) ?ry89 (by assumption) ?rr89
                        case ry89 => (intro wz hSw; (try dsimp only at hSw); go_simp; try with_reducible rfl)
                        (try simp only [Act.put, List.setIfInBounds_toArray, List.set_cons_zero, List.set_cons_succ])
                        refine reg_on (i := 5) (d := 80) (v := ?rv90) rfl rfl (by kernel_rfl) (by kernel_rfl) (by kernel_rfl) (fun _ _ _ h => h) (by rfl) ?ry90 (by assumption) ?rr90
                        case ry90 => (intro wz hSw; (try dsimp only at hSw); go_simp; try with_reducible rfl)
                        (try simp only [Act.put, List.setIfInBounds_toArray, List.set_cons_zero, List.set_cons_succ])
                        refine reg_on (i := 6) (d := 81) (v := ?rv91) rfl rfl (by kernel_rfl) (by kernel_rfl) (by kernel_rfl) (fun _ _ _ h => h) (by rfl) ?ry91 (by assumption) ?rr91
                        case ry91 => (intro wz hSw; (try dsimp only at hSw); go_simp; try with_reducible rfl)
                        (try simp only [Act.put, List.setIfInBounds_toArray, List.set_cons_zero, List.set_cons_succ])
                        refine reg_on (i := 7) (d := 82) (v := ?rv92) rfl rfl (by kernel_rfl) (by kernel_rfl) (by kernel_rfl) (fun _ _ _ h => h) (by rfl) ?ry92 (by assumption) ?rr92
                        case ry92 => (intro wz hSw; (try dsimp only at hSw); go_simp; try with_reducible rfl)
                        (try simp only [Act.put, List.setIfInBounds_toArray, List.set_cons_zero, List.set_cons_succ])
                        refine reg_on (i := 8) (d := 83) (v := ?rv93) rfl rfl (by kernel_rfl) (by kernel_rfl) (by kernel_rfl) (fun _ _ _ h => h) (by rfl) ?ry93 (by assumption) ?rr93
                        case ry93 => (intro wz hSw; (try dsimp only at hSw); go_simp; try with_reducible rfl)
                        (try simp only [Act.put, List.setIfInBounds_toArray, List.set_cons_zero, List.set_cons_succ])
                        refine reg_on (i := 9) (d := 84) (v := ?rv94) rfl rfl (by kernel_rfl) (by kernel_rfl) (by kernel_rfl) (fun _ _ _ h => h) (by rfl) ?ry94 (by assumption) ?rr94
                        case ry94 => (intro wz hSw; (try dsimp only at hSw); go_simp; try with_reducible rfl)
                        (try simp only [Act.put, List.setIfInBounds_toArray, List.set_cons_zero, List.set_cons_succ])
                        refine reg_on (i := 10) (d := 85) (v := ?rv95) rfl rfl (by kernel_rfl) (by kernel_rfl) (by kernel_rfl) (fun _ _ _ h => h) (by rfl) ?ry95 (by assumption) ?rr95
                        case ry95 => (intro wz hSw; (try dsimp only at hSw); go_simp; try with_reducible rfl)
                        (try simp only [Act.put, List.setIfInBounds_toArray, List.set_cons_zero, List.set_cons_succ])
                        refine reg_on (i := 11) (d := 86) (v := ?rv96) rfl rfl (by kernel_rfl) (by kernel_rfl) (by kernel_rfl) (fun _ _ _ h => h) (by rfl) ?ry96 (by assumption) ?rr96
                        case ry96 => (intro wz hSw; (try dsimp only at hSw); go_simp; try with_reducible rfl)
                        (try simp only [Act.put, List.setIfInBounds_toArray, List.set_cons_zero, List.set_cons_succ])
                        refine reg_on (i := 12) (d := 87) (v := ?rv97) rfl rfl (by kernel_rfl) (by kernel_rfl) (by kernel_rfl) (fun _ _ _ h => h) (by rfl) ?ry97 (by assumption) ?rr97
                        case ry97 => (intro wz hSw; (try dsimp only at hSw); go_simp; try with_reducible rfl)
                        (try simp only [Act.put, List.setIfInBounds_toArray, List.set_cons_zero, List.set_cons_succ])
                        refine reg_on (i := 13) (d := 88) (v := ?rv98) rfl rfl (by kernel_rfl) (by kernel_rfl) (by kernel_rfl) (fun _ _ _ h => h) (by rfl) ?ry98 (by assumption) ?rr98
                        case ry98 => (intro wz hSw; (try dsimp only at hSw); go_simp; try with_reducible rfl)
                        (try simp only [Act.put, List.setIfInBounds_toArray, List.set_cons_zero, List.set_cons_succ])
                        refine reg_on (i := 14) (d := 89) (v := ?rv99) rfl rfl (by kernel_rfl) (by kernel_rfl) (by kernel_rfl) (fun _ _ _ h => h) (by rfl) ?ry99 (by assumption) ?rr99
                        case ry99 => (intro wz hSw; (try dsimp only at hSw); go_simp; try with_reducible rfl)
                        (try simp only [Act.put, List.setIfInBounds_toArray, List.set_cons_zero, List.set_cons_succ])
                        refine reg_on (i := 15) (d := 90) (v := ?rv100) rfl rfl (by kernel_rfl) (by kernel_rfl) (by kernel_rfl) (fun _ _ _ h => h) (by rfl) ?ry100 (by assumption) ?rr100
                        case ry100 => (intro wz hSw; (try dsimp only at hSw); go_simp; try with_reducible rfl)
                        (try simp only [Act.put, List.setIfInBounds_toArray, List.set_cons_zero, List.set_cons_succ])
                        refine reg_on (i := 16) (d := 91) (v := ?rv101) rfl rfl (by kernel_rfl) (by kernel_rfl) (by kernel_rfl) (fun _ _ _ h => h) (by rfl) ?ry101 (by assumption) ?rr101
                        case ry101 => (intro wz hSw; (try dsimp only at hSw); go_simp; try with_reducible rfl)
                        (try simp only [Act.put, List.setIfInBounds_toArray, List.set_cons_zero, List.set_cons_succ])
                        refine reg_on (i := 17) (d := 92) (v := ?rv102) rfl rfl (by kernel_rfl) (by kernel_rfl) (by kernel_rfl) (fun _ _ _ h => h) (by rfl) ?ry102 (by assumption) ?rr102
                        case ry102 => (intro wz hSw; (try dsimp only at hSw); go_simp; try with_reducible rfl)
                        (try simp only [Act.put, List.setIfInBounds_toArray, List.set_cons_zero, List.set_cons_succ])
                        refine reg_on (i := 18) (d := 93) (v := ?rv103) rfl rfl (by kernel_rfl) (by kernel_rfl) (by kernel_rfl) (fun _ _ _ h => h) (by rfl) ?ry103 (by assumption) ?rr103
                        case ry103 => (intro wz hSw; (try dsimp only at hSw); go_simp; try with_reducible rfl)
                        (try simp only [Act.put, List.setIfInBounds_toArray, List.set_cons_zero, List.set_cons_succ])
                        refine reg_on (i := 19) (d := 94) (v := ?rv104) rfl rfl (by kernel_rfl) (by kernel_rfl) (by kernel_rfl) (fun _ _ _ h => h) (by rfl) ?ry104 (by assumption) ?rr104
                        case ry104 => (intro wz hSw; (try dsimp only at hSw); go_simp; try with_reducible rfl)
                        (try simp only [Act.put, List.setIfInBounds_toArray, List.set_cons_zero, List.set_cons_succ])
                        refine wpAnyH_ready (rs := [20]) (by kernel_rfl) (by simp) ?_
                        refine AllReadyH.cons rfl (fun K hK => ?_) AllReadyH.nil
                        go_simp
                        go_at_call 43; refine (HBB.out _).mono ?_; rintro e w7 ⟨rfl, hb7⟩; have s7 := hb7.size; (try simp at s7); have z0 : w7.cell? ⟨gr, k + 1, none⟩ = some (.int .i64 v1) := (hb7.cell (p := ⟨gr, k + 1, none⟩) (by first | (simp; done) | (simp; omega) | omega)).trans (by first | assumption | (go_split_ands; assumption)); have z1 : w7.cell? ⟨gr, u, none⟩ = some (.int .i64 v2) := (hb7.cell (p := ⟨gr, u, none⟩) (by first | (simp; done) | (simp; omega) | omega)).trans (by first | assumption | (go_split_ands; assumption))
                        refine hK.out _ _ ?_ (fun hHeld => ?_)
                        · ((try dsimp only); (repeat' apply And.intro); all_goals ((repeat (first | (with_reducible refine cell_drew ?_) | (with_reducible refine cell_drewN _ ?_) | ((with_reducible refine cell_alloc ?_ ?_); · first | omega | (simp; done) | (simp; omega) | assumption) | ((with_reducible refine cell_set ?_ ?_); · first | (intro e; injection e; omega) | (intro e; simp at e; done) | (intro e; simp at e; omega)))); first | assumption | (simp; done)))
                        clear hK K
                        (try simp only [Act.put, List.setIfInBounds_toArray, List.set_cons_zero, List.set_cons_succ])
                        refine reg_on (i := 21) (d := 96) (v := ?rv106) rfl rfl (by kernel_rfl) (by kernel_rfl) (by kernel_rfl) (fun _ _ _ h => h) (by rfl) ?ry106 (by assumption) ?rr106
                        case ry106 => (intro wz hSw; (try dsimp only at hSw); go_simp; try with_reducible rfl)
                        (try simp only [Act.put, List.setIfInBounds_toArray, List.set_cons_zero, List.set_cons_succ])
                        refine wpAnyH_ready (rs := [22]) (by kernel_rfl) (by simp) ?_
                        refine AllReadyH.cons rfl (fun K hK => ?_) AllReadyH.nil
                        go_simp
                        go_at_call 42; refine (leastC_any _ _ (by omega) (by omega)).mono ?_; rintro e wx ⟨rfl, rfl⟩
                        refine hK.out _ _ ?_ (fun hHeld => ?_)
                        · ((try dsimp only); (repeat' apply And.intro); all_goals ((repeat (first | (with_reducible refine cell_drew ?_) | (with_reducible refine cell_drewN _ ?_) | ((with_reducible refine cell_alloc ?_ ?_); · first | omega | (simp; done) | (simp; omega) | assumption) | ((with_reducible refine cell_set ?_ ?_); · first | (intro e; injection e; omega) | (intro e; simp at e; done) | (intro e; simp at e; omega)))); first | assumption | (simp; done)))
                        clear hK K
                        (try simp only [Act.put, List.setIfInBounds_toArray, List.set_cons_zero, List.set_cons_succ])
                        refine reg_on (i := 23) (d := 9) (v := ?rv108) rfl rfl (by kernel_rfl) (by kernel_rfl) (by kernel_rfl) (fun _ _ _ h => h) (by rfl) ?ry108 (by assumption) ?rr108
                        case ry108 => (intro wz hSw; (try dsimp only at hSw); go_simp; try with_reducible rfl)
                        (try simp only [Act.put, List.setIfInBounds_toArray, List.set_cons_zero, List.set_cons_succ])
                        refine wpAnyH_done (by kernel_rfl) ?_ _
                        have BLD := Lib.hid (bcall (by have := HBl.out.size; show wo.heap.size ≤ wr.heap.size; omega) hb7 HBl.out.drew)
                        clear hb7 d0 d1 HBB HBl
                        go_wp2
                        go_roundw
                        case rel => exact ⟨k + 1, by omega, by go_num, by rw [HST.out], BLD.out⟩
                        case measure => simp [intOf]; omega
                      · have hkx : k = q - 1 := by omega
                        have hnle : decide ((k : Int) + 1 < (q : Int)) = false := by simp; omega
                        have HBE := Lib.hid HBl.out
                        clear HBl
                        subst hkx
                        have hstep := HSTP.out
                        generalize acrossO M p q (q - 1) (downO M p q (p - 1) (start0 p q)) = v at *
                        have hown2 := own_later HOR.out HBE.out (Nat.le_refl _)
                        have hrlen : L.length = (Y + 1) * 1 := hown2.1
                        have a0 := hown2.cellAt q (by omega)
                        rw [List.getElem?_eq_getElem (by omega)] at a0
                        have f0 := hown2.frozenAt q
                        generalize L[q] = old at a0
                        have st := hown2.stored q (.int .i64 v)
                        have hT2 := (own_later HOT.out HBE.out (Nat.le_refl _)).kept st.2 (.inr (by simp [Value.ownBlock]; omega))
                        have hTB2 := ((HTB.out.below HBE.out (by omega) (by omega)).set (f := gr) (k := q) (v := .int .i64 v) hgt (Nat.le_refl _)).upd (p := p) (q := q) (v := v)
                        have hbl2 := (HBW.out.trans (HBE.out.mono (by omega))).setCell (p := ⟨gr, q, none⟩) (by show w.heap.size + 1 ≤ gr; omega) (.int .i64 v)
                        have hL2 : ∀ j, 1 ≤ j → j < q + 1 → (L.set q (.int .i64 v))[j]? = some (.int .i64 (upd M p q v p j)) := by
                          intro j j1 j2
                          by_cases e : j = q
                          · subst e
                            rw [upd_same]
                            simp [List.getElem?_set]
                            omega
                          · rw [upd_other (by omega), List.getElem?_set_ne (fun h => e h.symm)]
                            exact HLL.out j j1 (by omega)
                        have ST := Lib.hid st.1
                        have HT2 := Lib.hid hT2
                        have HTB2 := Lib.hid hTB2
                        have HBL2 := Lib.hid hbl2
                        have HL2 := Lib.hid hL2
                        have HDP2 : Hid (DoneO (upd M p q v) Y p (q + 1)) := by have h := HDP.out; rw [hstep] at h; exact h
                        have y1 : (q : Int) < (Y : Int) + 1 := by omega
                        have y2 : q < Y + 1 := by omega
                        clear st hT2 hTB2 hbl2 hL2 hown2 hrlen hstep
                        go_wp2
                        go_roundw
                        case rel => exact ⟨q + 1, upd M p q v, L.set q (.int .i64 v), by omega, by omega, by go_num, HT2.out, ST.out, HL2.out, HTB2.out, HDP2.out, HBL2.out⟩
                        case measure => simp [intOf]; omega
            · have hqe : q = Y + 1 := by omega
              subst hqe
              have hnle : decide (((Y + 1 : Nat) : Int) ≤ (Y : Int)) = false := by simp; omega
              have hrw : ∀ j, 1 ≤ j → j ≤ Y → wr.cell? ⟨gr, j, none⟩ = some (.int .i64 (M p j)) := fun j j1 j2 => by
                have h := hownR.cellAt j (by omega)
                rw [h]
                exact hLL j j1 (by omega)
              have htlen : tab.length = (X + 1) * 1 := hownT.1
              have a0 := hownT.cellAt p (by omega)
              rw [List.getElem?_eq_getElem (by omega)] at a0
              have f0 := hownT.frozenAt p
              generalize tab[p] = old at a0
              have st := (hownT.stored p (.slice (some ⟨gr, 0, none⟩) (Y + 1) (Y + 1))).1
              have hTB2 := (hTB.row hgt a0 hrw).mono (top' := (wr.setCell ⟨w.heap.size + 1, p, none⟩ (.slice (some ⟨gr, 0, none⟩) (Y + 1) (Y + 1))).heap.size) (by simp; omega)
              have hbl2 := hBl.setCell (p := ⟨w.heap.size + 1, p, none⟩) (Nat.le_refl _) (.slice (some ⟨gr, 0, none⟩) (Y + 1) (Y + 1))
              have ST := Lib.hid st
              have HTB2 := Lib.hid hTB2
              have HBL2 := Lib.hid hbl2
              have HD2 := Lib.hid hD.row
              have y1 : (p : Int) < (X : Int) + 1 := by omega
              have y2 : p < X + 1 := by omega
              clear st hTB2 hbl2 hD hTB hBl hownR hownT hLL hrw htlen e0
              go_wp2
              go_roundw
              case rel => exact ⟨p + 1, M, _, by omega, by omega, by go_num, ST.out, HTB2.out, HD2.out, HBL2.out⟩
              case measure => simp [intOf]; omega
      · have hpe : p = X + 1 := by omega
        subst hpe
        have hnle : decide (((X + 1 : Nat) : Int) ≤ (X : Int)) = false := by simp; omega
        obtain ⟨g1, ga, gb, gc, gd⟩ := hTB X hX1 (by omega)
        have d1 := gd Y hY1 (Nat.le_refl _)
        have hrec := hD.solves
        have HRC := Lib.hid hrec
        have HBl := Lib.hid hBl
        have x1 : (X : Int) < (X : Int) + 1 := by omega
        have x2 : (Y : Int) < (Y : Int) + 1 := by omega
        have x3 : (0 : Int) ≤ (X : Int) := by omega
        have x4 : (0 : Int) ≤ (Y : Int) := by omega
        clear hownT hTB hD hBl hrec gd ga gb
        generalize hv : M X Y = v at *
        have HV := Lib.hid hv
        clear hv
        go_wp2
        go_quiet (fail)
        go_wp2
        go_ret
        exact ⟨M, HRC.out, ret_int HV.out.symm, bdrewN _ (BW.out.trans (HBl.out.mono (by omega)))⟩

end Go.Proofs.Ytjfedmcejeeocaa
