/-
  Contract: the program's waysOf and countWays, orders not told.
-/
import Derived.Test.YtjfedmcejeeocaaTreesW
import Derived.Test.YtjfedmcejeeocaaReg
namespace Go.Proofs.Ytjfedmcejeeocaa
open Go.RowKit Go.Maps
set_option linter.unusedVariables false

theorem bar_eqlP (a b c d : Int) (w : World) : (binOp .eql 27 (bar2 a b) (bar2 c d)).run Try.prog w = .ok (.bool (a == c && b == d)) w := by
  have ht : Try.prog.underlying 27 = some (.struct (Try.prog.fieldsOf 27)) := by kernel_rfl
  have hp : Try.prog.stoodInHeld 27 = false := by kernel_rfl
  rw [run_eql_struct, run_equalIn_agg _ _ _ _ _ ht hp]
  have hi := Try.underlying3
  by_cases h1 : (a == c) = true
  · by_cases h2 : (b == d) = true
    · simp [Program.fieldsOf, Try.underlying27, Op.eqFields, hi, h1, h2, go_sem]
    · have h2' : (b == d) = false := by simpa using h2
      simp [Program.fieldsOf, Try.underlying27, Op.eqFields, hi, h1, h2', go_sem]
  · have h1' : (a == c) = false := by simpa using h1
    simp [Program.fieldsOf, Try.underlying27, Op.eqFields, hi, h1', go_sem]
theorem idx_wayP0 (w : World) : (Instr.index 61 (.agg #[.bool true, .bool false]) (.int .i64 0)).run Try.prog w = .ok (.bool true) w := by kernel_rfl
theorem idx_wayP1 (w : World) : (Instr.index 61 (.agg #[.bool true, .bool false]) (.int .i64 1)).run Try.prog w = .ok (.bool false) w := by kernel_rfl
def wayJ (M : Nat → Nat → Int) (x y : Nat) : Nat → Int
  | 0 => 0
  | 1 => downV M x y (x - 1) 0
  | _ => acrossV M x y (y - 1) (downV M x y (x - 1) 0)

set_option maxRecDepth 100000 in
set_option maxHeartbeats 4000000 in
theorem waysOf_one (b n : Nat) (M : Nat → Nat → Int) (w : World) :
    Calls Try.prog 44 #[bar2 1 1, .map (some b), .bool false] w fun e w' => e = .returned (.int .i64 (stepV M 1 1)) ∧ Below w.heap.size w w' := by
  have heq : ∀ wx, (binOp .eql 27 (bar2 1 1) (bar2 1 1)).run Try.prog wx = .ok (.bool true) wx := fun wx => by rw [bar_eqlP]; rfl
  rw [show stepV M 1 1 = 1 from if_pos ⟨rfl, rfl⟩]
  go_enter Try.func44, Try.ntmps44
  go_wp2
  go_ret
  exact ⟨rfl, by (repeat (first | (with_reducible exact Below.refl _ _) | (with_reducible assumption) | (with_reducible refine Below.drew ?_) | ((with_reducible refine balloc ?_ _ ?_); · (first | (simp; done) | (simp; omega) | omega)) | ((with_reducible refine bset ?_ _ ?_); · (first | (simp; done) | (simp; omega) | omega)) | (with_reducible refine bdrewN _ ?_) | ((with_reducible refine bcall ?_ (by assumption) ?_); · (first | (simp; done) | (simp; omega) | omega))))⟩

set_option maxRecDepth 100000 in
set_option maxHeartbeats 4000000 in
theorem waysOf_more (b n x y : Nat) (M : Nat → Nat → Int) (w : World) (hM : MapAt w b n M) (hx1 : 1 ≤ x) (hx : x ≤ 12) (hy1 : 1 ≤ y) (hy : y ≤ 12) (hne : ¬ (x = 1 ∧ y = 1)) (hG : GoodM M x y) :
    Calls Try.prog 44 #[bar2 x y, .map (some b), .bool false] w fun e w' => e = .returned (.int .i64 (stepV M x y)) ∧ Below w.heap.size w w' := by
  have heq : ∀ wx, (binOp .eql 27 (bar2 x y) (bar2 1 1)).run Try.prog wx = .ok (.bool false) wx := fun wx => by
    rw [bar_eqlP]
    have : (((x : Int) == 1) && ((y : Int) == 1)) = false := by
      rw [Bool.and_eq_false_iff]
      simp
      omega
    rw [this]
  have HS : Hid (stepV M x y = wayJ M x y 2) := if_neg hne
  have hB : barB x y = true := by simp [barB]; omega
  have HB := Lib.hid hB
  have HG := Lib.hid hG
  have hbl := hM.lt
  have HM := Lib.hid (hM.alloc (.cells #[.int .i64 x, .int .i64 y] 27))
  have HD := Lib.hid (downV_in hG hy1)
  have HA := Lib.hid (acrossV_in hG hx1)
  have c0 : (w.alloc (.cells #[.int .i64 x, .int .i64 y] 27)).cell? ⟨w.heap.size, 0, none⟩ = some (.int .i64 x) := by simp [go_sem]
  have c1 : (w.alloc (.cells #[.int .i64 x, .int .i64 y] 27)).cell? ⟨w.heap.size, 1, none⟩ = some (.int .i64 y) := by simp [go_sem]
  have bw : Below w.heap.size w (w.alloc (.cells #[.int .i64 x, .int .i64 y] 27)) := by (repeat (first | (with_reducible exact Below.refl _ _) | (with_reducible assumption) | (with_reducible refine Below.drew ?_) | ((with_reducible refine balloc ?_ _ ?_); · (first | (simp; done) | (simp; omega) | omega)) | ((with_reducible refine bset ?_ _ ?_); · (first | (simp; done) | (simp; omega) | omega)) | (with_reducible refine bdrewN _ ?_) | ((with_reducible refine bcall ?_ (by assumption) ?_); · (first | (simp; done) | (simp; omega) | omega))))
  have szx : (w.alloc (.cells #[.int .i64 x, .int .i64 y] 27)).heap.size = w.heap.size + 1 := by simp
  have C0 := Lib.hid c0
  have C1 := Lib.hid c1
  have BW := Lib.hid bw
  have SZ := Lib.hid szx
  have ix0 := idx_wayP0
  have ix1 := idx_wayP1
  clear c0 c1 bw szx hG hM hB
  go_enter Try.func44, Try.ntmps44
  go_wp2
  generalize w.alloc (.cells #[.int .i64 x, .int .i64 y] 27) = W1 at *
  have szx := SZ.out
  go_loopw [7, 18] (fun s i wr => ∃ j : Nat, j ≤ 2 ∧ i = .int .i64 j ∧ s = .int .i64 (wayJ M x y j) ∧ Below (w.heap.size + 1) W1 wr) (fun _ i _ => 2 - (intOf i).toNat)
  case atStart => exact ⟨0, by omega, rfl, rfl, Below.refl _ _⟩
  case round =>
    obtain ⟨j, hj, rfl, rfl, hBl⟩ := hrel
    clear heq
    rcases (show j = 0 ∨ j = 1 ∨ j = 2 by omega) with rfl | rfl | rfl
    · have hs0 : 0 ≤ (0 : Int) ∧ (0 : Int) ≤ 1000000000000001 := ⟨by omega, by omega⟩
      have HS0 := Lib.hid hs0
      have HBl := Lib.hid hBl
      clear hBl
      go_wp2
      have HW : Hid (wayJ M x y 0 = (0 : Int) ∧ wayJ M x y 1 = downV M x y (x - 1) (0 : Int)) := ⟨rfl, rfl⟩
      go_loopw [7, 10] (fun s i wr => ∃ k : Nat, k + 1 ≤ x ∧ i = .int .i64 ((k : Int) + 1) ∧ s = .int .i64 (downV M x y k (0 : Int)) ∧ Below (w.heap.size + 1) W1 wr) (fun _ i _ => x + 1 - (intOf i).toNat)
      case atStart => exact ⟨0, by omega, rfl, rfl, HBl.out⟩
      case round =>
        clear HBl
        obtain ⟨k, hk, rfl, rfl, hBl⟩ := hrel
        have e0 := (hBl.cell (p := ⟨w.heap.size, 0, none⟩) (by show w.heap.size < w.heap.size + 1; omega)).trans C0.out
        have e1 := (hBl.cell (p := ⟨w.heap.size, 1, none⟩) (by show w.heap.size < w.heap.size + 1; omega)).trans C1.out
        have hin := HD.out k (0 : Int) (by omega) HS0.out.1 HS0.out.2
        obtain ⟨i1, i2, _⟩ := hin
        have sB := hBl.size
        by_cases hlt : k + 1 < x
        · have hlti : (k : Int) + 1 ≤ (x : Int) - 1 := by omega
          obtain ⟨p, hp⟩ : ∃ p, p = k + 1 := ⟨_, rfl⟩
          obtain ⟨q, hq⟩ : ∃ q, q = x - (k + 1) := ⟨_, rfl⟩
          have HST : Hid (downV M x y (k + 1) (0 : Int) = capS (downV M x y k (0 : Int) + timesC (M p y) (M q y))) := by simp only [Hid, downV, hp, hq]
          have r1 : InR (M p y) := HG.out _ _ (by omega) (by omega) (by omega) (by omega) (by omega)
          have r2 : InR (M q y) := HG.out _ _ (by omega) (by omega) (by omega) (by omega) (by omega)
          have hpo : ∀ wx, Calls Try.prog 41 #[bar2 x y, .bool true, .int .i64 ((k : Int) + 1)] wx fun e w' => e = .returned (.tuple #[bar2 p y, bar2 q y]) ∧ Below wx.heap.size wx w' := fun wx => by
            have h := partsOf_any x y true ((k : Int) + 1) wx HB.out (by simp [canB, inB]; omega)
            have e1 : part1 (x : Int) y true ((k : Int) + 1) = ((p : Int), (y : Int)) := by simp [part1]; omega
            have e2 : part2 (x : Int) y true ((k : Int) + 1) = ((q : Int), (y : Int)) := by simp [part2]; omega
            rw [e1, e2] at h
            exact h
          have HPO := Lib.hid hpo
          have HCP := Lib.hid (fun wx => cappedProduct_any (M p y) (M q y) wx r1 r2)
          have hp100 : p ≤ 100 := by omega
          have hq100 : q ≤ 100 := by omega
          have tin := timesC_in r1 r2
          obtain ⟨t1, t2⟩ := tin
          have HBl := Lib.hid hBl
          clear hBl hpo r1 r2 hp hq
          go_wp2_with fail
          refine (linesOf_any _ _ _ _ HB.out).mono ?_; rintro e w5 ⟨rfl, hb5⟩
          have g0 := (hb5.cell (p := ⟨w.heap.size, 0, none⟩) (by show w.heap.size < wr.heap.size; omega)).trans e0
          have g1 := (hb5.cell (p := ⟨w.heap.size, 1, none⟩) (by show w.heap.size < wr.heap.size; omega)).trans e1
          have bl5 : Below (w.heap.size + 1) W1 w5 := bcall (by omega) hb5 HBl.out
          have s5 := bl5.size
          have BL5 := Lib.hid bl5
          clear hb5 e0 e1 bl5 HBl
          go_wp2_with fail
          refine (HPO.out _).mono ?_; rintro e w6 ⟨rfl, hb6⟩
          have bl6 : Below (w.heap.size + 1) W1 w6 := bcall (by omega) hb6 BL5.out
          have s6 := bl6.size
          have blA : Below (w.heap.size + 1) W1 ((w6.alloc (.cells #[.int .i64 p, .int .i64 y] 27)).alloc (.cells #[.int .i64 q, .int .i64 y] 27)) := (bl6.alloc (by omega) _).alloc (by simp; omega) _
          have hMA : MapAt ((w6.alloc (.cells #[.int .i64 p, .int .i64 y] 27)).alloc (.cells #[.int .i64 q, .int .i64 y] 27)) b n M := HM.out.below blA (by omega)
          have k1 := hMA.look (x := p) (y := y) (by omega) (by omega)
          have k2 := hMA.look (x := q) (y := y) (by omega) (by omega)
          have k1d := hMA.drew.look (x := p) (y := y) (by omega) (by omega)
          have k2d := hMA.drew.look (x := q) (y := y) (by omega) (by omega)
          have d0 : ((w6.alloc (.cells #[.int .i64 p, .int .i64 y] 27)).alloc (.cells #[.int .i64 q, .int .i64 y] 27)).cell? ⟨w6.heap.size, 0, none⟩ = some (.int .i64 p) := by rw [World.cell?_alloc_lt _ _ _ (by simp)]; simp [go_sem]
          have d1 : ((w6.alloc (.cells #[.int .i64 p, .int .i64 y] 27)).alloc (.cells #[.int .i64 q, .int .i64 y] 27)).cell? ⟨w6.heap.size, 1, none⟩ = some (.int .i64 y) := by rw [World.cell?_alloc_lt _ _ _ (by simp)]; simp [go_sem]
          have d2 : ((w6.alloc (.cells #[.int .i64 p, .int .i64 y] 27)).alloc (.cells #[.int .i64 q, .int .i64 y] 27)).cell? ⟨w6.heap.size + 1, 0, none⟩ = some (.int .i64 q) := by simp [go_sem]
          have d3 : ((w6.alloc (.cells #[.int .i64 p, .int .i64 y] 27)).alloc (.cells #[.int .i64 q, .int .i64 y] 27)).cell? ⟨w6.heap.size + 1, 1, none⟩ = some (.int .i64 y) := by simp [go_sem]
          have BLA := Lib.hid blA
          clear hb6 bl6 blA hMA BL5 g0 g1 HPO
          generalize M p y = v1 at *
          generalize M q y = v2 at *
          generalize downV M x y k (0 : Int) = sk at *
          go_wp2
          refine wp_region_held_drew (S := (fun w' => w'.cell? ⟨w6.heap.size, 0, none⟩ = some (.int .i64 p) ∧ w'.cell? ⟨w6.heap.size, 1, none⟩ = some (.int .i64 y) ∧ w'.cell? ⟨w6.heap.size + 1, 0, none⟩ = some (.int .i64 q) ∧ w'.cell? ⟨w6.heap.size + 1, 1, none⟩ = some (.int .i64 y) ∧ (Instr.lookup 66 (.map (some b)) (bar2 p y) false).run Try.prog w' = .ok (.int .i64 (v1)) w' ∧ (Instr.lookup 66 (.map (some b)) (bar2 q y) false).run Try.prog w' = .ok (.int .i64 (v2)) w')) (by kernel_rfl) ?_ (fun hHeld => ?_)
          · ((try dsimp only); (repeat' apply And.intro); all_goals ((repeat (first | (with_reducible refine cell_drew ?_) | (with_reducible refine cell_drewN _ ?_) | ((with_reducible refine cell_alloc ?_ ?_); · first | omega | (simp; done) | (simp; omega) | assumption) | ((with_reducible refine cell_set ?_ ?_); · first | (intro e; injection e; omega) | (intro e; simp at e; done) | (intro e; simp at e; omega)))); first | assumption | (simp; done)))
          refine reg_on (i := 0) (d := 35) (v := ?rv1) rfl rfl (by kernel_rfl) (by kernel_rfl) (by kernel_rfl) (fun _ _ _ h => h) (by rfl) ?ry1 (by assumption) ?rr1
          case ry1 => (intro wz hSw; (try dsimp only at hSw); go_simp; try with_reducible rfl)
          (try simp only [Act.put, List.setIfInBounds_toArray, List.set_cons_zero, List.set_cons_succ])
          refine reg_on (i := 1) (d := 36) (v := ?rv2) rfl rfl (by kernel_rfl) (by kernel_rfl) (by kernel_rfl) (fun _ _ _ h => h) (by rfl) ?ry2 (by assumption) ?rr2
          case ry2 => (intro wz hSw; (try dsimp only at hSw); go_simp; try with_reducible rfl)
          (try simp only [Act.put, List.setIfInBounds_toArray, List.set_cons_zero, List.set_cons_succ])
          refine reg_on (i := 2) (d := 37) (v := ?rv3) rfl rfl (by kernel_rfl) (by kernel_rfl) (by kernel_rfl) (fun _ _ _ h => h) (by rfl) ?ry3 (by assumption) ?rr3
          case ry3 => (intro wz hSw; (try dsimp only at hSw); go_simp; try with_reducible rfl)
          (try simp only [Act.put, List.setIfInBounds_toArray, List.set_cons_zero, List.set_cons_succ])
          refine reg_on (i := 3) (d := 38) (v := ?rv4) rfl rfl (by kernel_rfl) (by kernel_rfl) (by kernel_rfl) (fun _ _ _ h => h) (by rfl) ?ry4 (by assumption) ?rr4
          case ry4 => (intro wz hSw; (try dsimp only at hSw); go_simp; try with_reducible rfl)
          (try simp only [Act.put, List.setIfInBounds_toArray, List.set_cons_zero, List.set_cons_succ])
          refine reg_on (i := 4) (d := 39) (v := ?rv5) rfl rfl (by kernel_rfl) (by kernel_rfl) (by kernel_rfl) (fun _ _ _ h => h) (by rfl) ?ry5 (by assumption) ?rr5
          case ry5 => (intro wz hSw; (try dsimp only at hSw); go_simp; try with_reducible rfl)
          (try simp only [Act.put, List.setIfInBounds_toArray, List.set_cons_zero, List.set_cons_succ])
          refine reg_on (i := 5) (d := 40) (v := ?rv6) rfl rfl (by kernel_rfl) (by kernel_rfl) (by kernel_rfl) (fun _ _ _ h => h) (by rfl) ?ry6 (by assumption) ?rr6
          case ry6 => (intro wz hSw; (try dsimp only at hSw); go_simp; try with_reducible rfl)
          (try simp only [Act.put, List.setIfInBounds_toArray, List.set_cons_zero, List.set_cons_succ])
          refine wpAnyH_ready (rs := [6]) (by kernel_rfl) (by simp) ?_
          refine AllReadyH.cons rfl (fun K hK => ?_) AllReadyH.nil
          go_simp
          go_at_call 53; refine (HCP.out _).mono ?_; rintro e wx ⟨rfl, rfl⟩
          refine hK.out _ _ ?_ (fun hHeld => ?_)
          · ((try dsimp only); (repeat' apply And.intro); all_goals ((repeat (first | (with_reducible refine cell_drew ?_) | (with_reducible refine cell_drewN _ ?_) | ((with_reducible refine cell_alloc ?_ ?_); · first | omega | (simp; done) | (simp; omega) | assumption) | ((with_reducible refine cell_set ?_ ?_); · first | (intro e; injection e; omega) | (intro e; simp at e; done) | (intro e; simp at e; omega)))); first | assumption | (simp; done)))
          clear hK K
          (try simp only [Act.put, List.setIfInBounds_toArray, List.set_cons_zero, List.set_cons_succ])
          refine reg_on (i := 7) (d := 13) (v := ?rv8) rfl rfl (by kernel_rfl) (by kernel_rfl) (by kernel_rfl) (fun _ _ _ h => h) (by rfl) ?ry8 (by assumption) ?rr8
          case ry8 => (intro wz hSw; (try dsimp only at hSw); go_simp; try with_reducible rfl)
          (try simp only [Act.put, List.setIfInBounds_toArray, List.set_cons_zero, List.set_cons_succ])
          refine wpAnyH_done (by kernel_rfl) ?_ _
          generalize timesC v1 v2 = tv at *
          have wsum : IntKind.i64.wrap (sk + tv) = sk + tv := IntWalk.i64_in _ (by omega)
          clear d0 d1 d2 d3 k1 k2 k1d k2d HCP
          have BLD := Lib.hid BLA.out.drew
          clear BLA
          go_wp2
          all_goals
            go_roundw
            case rel => exact ⟨k + 1, by omega, by go_num, by rw [HST.out]; congr 1; unfold capS; split <;> omega, BLD.out⟩
            case measure => simp [intOf]; omega
        · have hkx : k = x - 1 := by omega
          have hnle : decide ((k : Int) + 1 ≤ (x : Int) - 1) = false := by simp; omega
          have HKX := Lib.hid hkx
          have HBl := Lib.hid hBl
          clear hBl hkx
          go_wp2_with fail
          refine (linesOf_any _ _ _ _ HB.out).mono ?_; rintro e w5 ⟨rfl, hb5⟩
          have bl5 : Below (w.heap.size + 1) W1 w5 := bcall (by omega) hb5 HBl.out
          have BL5 := Lib.hid bl5
          clear hb5 bl5 HBl e0 e1
          go_wp2
          go_roundw
          case rel => exact ⟨1, by omega, by go_num, by rw [HW.out.2, HKX.out], BL5.out⟩
          case measure => simp [intOf]
    · have hs0 : 0 ≤ (downV M x y (x - 1) 0) ∧ (downV M x y (x - 1) 0) ≤ 1000000000000001 := (by have h := HD.out (x - 1) 0 (by omega) (by omega) (by omega); exact ⟨h.1, h.2.1⟩)
      have HS0 := Lib.hid hs0
      have HBl := Lib.hid hBl
      clear hBl
      go_wp2
      have HW : Hid (wayJ M x y 1 = (downV M x y (x - 1) 0) ∧ wayJ M x y 2 = acrossV M x y (y - 1) (downV M x y (x - 1) 0)) := ⟨rfl, rfl⟩
      go_loopw [7, 10] (fun s i wr => ∃ k : Nat, k + 1 ≤ y ∧ i = .int .i64 ((k : Int) + 1) ∧ s = .int .i64 (acrossV M x y k (downV M x y (x - 1) 0)) ∧ Below (w.heap.size + 1) W1 wr) (fun _ i _ => y + 1 - (intOf i).toNat)
      case atStart => exact ⟨0, by omega, rfl, rfl, HBl.out⟩
      case round =>
        clear HBl
        obtain ⟨k, hk, rfl, rfl, hBl⟩ := hrel
        have e0 := (hBl.cell (p := ⟨w.heap.size, 0, none⟩) (by show w.heap.size < w.heap.size + 1; omega)).trans C0.out
        have e1 := (hBl.cell (p := ⟨w.heap.size, 1, none⟩) (by show w.heap.size < w.heap.size + 1; omega)).trans C1.out
        have hin := HA.out k (downV M x y (x - 1) 0) (by omega) HS0.out.1 HS0.out.2
        obtain ⟨i1, i2, _⟩ := hin
        have sB := hBl.size
        by_cases hlt : k + 1 < y
        · have hlti : (k : Int) + 1 ≤ (y : Int) - 1 := by omega
          obtain ⟨p, hp⟩ : ∃ p, p = k + 1 := ⟨_, rfl⟩
          obtain ⟨q, hq⟩ : ∃ q, q = y - (k + 1) := ⟨_, rfl⟩
          have HST : Hid (acrossV M x y (k + 1) (downV M x y (x - 1) 0) = capS (acrossV M x y k (downV M x y (x - 1) 0) + timesC (M x p) (M x q))) := by simp only [Hid, acrossV, hp, hq]
          have r1 : InR (M x p) := HG.out _ _ (by omega) (by omega) (by omega) (by omega) (by omega)
          have r2 : InR (M x q) := HG.out _ _ (by omega) (by omega) (by omega) (by omega) (by omega)
          have hpo : ∀ wx, Calls Try.prog 41 #[bar2 x y, .bool false, .int .i64 ((k : Int) + 1)] wx fun e w' => e = .returned (.tuple #[bar2 x p, bar2 x q]) ∧ Below wx.heap.size wx w' := fun wx => by
            have h := partsOf_any x y false ((k : Int) + 1) wx HB.out (by simp [canB, inB]; omega)
            have e1 : part1 (x : Int) y false ((k : Int) + 1) = ((x : Int), (p : Int)) := by simp [part1]; omega
            have e2 : part2 (x : Int) y false ((k : Int) + 1) = ((x : Int), (q : Int)) := by simp [part2]; omega
            rw [e1, e2] at h
            exact h
          have HPO := Lib.hid hpo
          have HCP := Lib.hid (fun wx => cappedProduct_any (M x p) (M x q) wx r1 r2)
          have hp100 : p ≤ 100 := by omega
          have hq100 : q ≤ 100 := by omega
          have tin := timesC_in r1 r2
          obtain ⟨t1, t2⟩ := tin
          have HBl := Lib.hid hBl
          clear hBl hpo r1 r2 hp hq
          go_wp2_with fail
          refine (linesOf_any _ _ _ _ HB.out).mono ?_; rintro e w5 ⟨rfl, hb5⟩
          have g0 := (hb5.cell (p := ⟨w.heap.size, 0, none⟩) (by show w.heap.size < wr.heap.size; omega)).trans e0
          have g1 := (hb5.cell (p := ⟨w.heap.size, 1, none⟩) (by show w.heap.size < wr.heap.size; omega)).trans e1
          have bl5 : Below (w.heap.size + 1) W1 w5 := bcall (by omega) hb5 HBl.out
          have s5 := bl5.size
          have BL5 := Lib.hid bl5
          clear hb5 e0 e1 bl5 HBl
          go_wp2_with fail
          refine (HPO.out _).mono ?_; rintro e w6 ⟨rfl, hb6⟩
          have bl6 : Below (w.heap.size + 1) W1 w6 := bcall (by omega) hb6 BL5.out
          have s6 := bl6.size
          have blA : Below (w.heap.size + 1) W1 ((w6.alloc (.cells #[.int .i64 x, .int .i64 p] 27)).alloc (.cells #[.int .i64 x, .int .i64 q] 27)) := (bl6.alloc (by omega) _).alloc (by simp; omega) _
          have hMA : MapAt ((w6.alloc (.cells #[.int .i64 x, .int .i64 p] 27)).alloc (.cells #[.int .i64 x, .int .i64 q] 27)) b n M := HM.out.below blA (by omega)
          have k1 := hMA.look (x := x) (y := p) (by omega) (by omega)
          have k2 := hMA.look (x := x) (y := q) (by omega) (by omega)
          have k1d := hMA.drew.look (x := x) (y := p) (by omega) (by omega)
          have k2d := hMA.drew.look (x := x) (y := q) (by omega) (by omega)
          have d0 : ((w6.alloc (.cells #[.int .i64 x, .int .i64 p] 27)).alloc (.cells #[.int .i64 x, .int .i64 q] 27)).cell? ⟨w6.heap.size, 0, none⟩ = some (.int .i64 x) := by rw [World.cell?_alloc_lt _ _ _ (by simp)]; simp [go_sem]
          have d1 : ((w6.alloc (.cells #[.int .i64 x, .int .i64 p] 27)).alloc (.cells #[.int .i64 x, .int .i64 q] 27)).cell? ⟨w6.heap.size, 1, none⟩ = some (.int .i64 p) := by rw [World.cell?_alloc_lt _ _ _ (by simp)]; simp [go_sem]
          have d2 : ((w6.alloc (.cells #[.int .i64 x, .int .i64 p] 27)).alloc (.cells #[.int .i64 x, .int .i64 q] 27)).cell? ⟨w6.heap.size + 1, 0, none⟩ = some (.int .i64 x) := by simp [go_sem]
          have d3 : ((w6.alloc (.cells #[.int .i64 x, .int .i64 p] 27)).alloc (.cells #[.int .i64 x, .int .i64 q] 27)).cell? ⟨w6.heap.size + 1, 1, none⟩ = some (.int .i64 q) := by simp [go_sem]
          have BLA := Lib.hid blA
          clear hb6 bl6 blA hMA BL5 g0 g1 HPO
          generalize M x p = v1 at *
          generalize M x q = v2 at *
          generalize acrossV M x y k (downV M x y (x - 1) 0) = sk at *
          go_wp2
          refine wp_region_held_drew (S := (fun w' => w'.cell? ⟨w6.heap.size, 0, none⟩ = some (.int .i64 x) ∧ w'.cell? ⟨w6.heap.size, 1, none⟩ = some (.int .i64 p) ∧ w'.cell? ⟨w6.heap.size + 1, 0, none⟩ = some (.int .i64 x) ∧ w'.cell? ⟨w6.heap.size + 1, 1, none⟩ = some (.int .i64 q) ∧ (Instr.lookup 66 (.map (some b)) (bar2 x p) false).run Try.prog w' = .ok (.int .i64 (v1)) w' ∧ (Instr.lookup 66 (.map (some b)) (bar2 x q) false).run Try.prog w' = .ok (.int .i64 (v2)) w')) (by kernel_rfl) ?_ (fun hHeld => ?_)
          · ((try dsimp only); (repeat' apply And.intro); all_goals ((repeat (first | (with_reducible refine cell_drew ?_) | (with_reducible refine cell_drewN _ ?_) | ((with_reducible refine cell_alloc ?_ ?_); · first | omega | (simp; done) | (simp; omega) | assumption) | ((with_reducible refine cell_set ?_ ?_); · first | (intro e; injection e; omega) | (intro e; simp at e; done) | (intro e; simp at e; omega)))); first | assumption | (simp; done)))
          refine reg_on (i := 0) (d := 35) (v := ?rv9) rfl rfl (by kernel_rfl) (by kernel_rfl) (by kernel_rfl) (fun _ _ _ h => h) (by rfl) ?ry9 (by assumption) ?rr9
          case ry9 => (intro wz hSw; (try dsimp only at hSw); go_simp; try with_reducible rfl)
          (try simp only [Act.put, List.setIfInBounds_toArray, List.set_cons_zero, List.set_cons_succ])
          refine reg_on (i := 1) (d := 36) (v := ?rv10) rfl rfl (by kernel_rfl) (by kernel_rfl) (by kernel_rfl) (fun _ _ _ h => h) (by rfl) ?ry10 (by assumption) ?rr10
          case ry10 => (intro wz hSw; (try dsimp only at hSw); go_simp; try with_reducible rfl)
          (try simp only [Act.put, List.setIfInBounds_toArray, List.set_cons_zero, List.set_cons_succ])
          refine reg_on (i := 2) (d := 37) (v := ?rv11) rfl rfl (by kernel_rfl) (by kernel_rfl) (by kernel_rfl) (fun _ _ _ h => h) (by rfl) ?ry11 (by assumption) ?rr11
          case ry11 => (intro wz hSw; (try dsimp only at hSw); go_simp; try with_reducible rfl)
          (try simp only [Act.put, List.setIfInBounds_toArray, List.set_cons_zero, List.set_cons_succ])
          refine reg_on (i := 3) (d := 38) (v := ?rv12) rfl rfl (by kernel_rfl) (by kernel_rfl) (by kernel_rfl) (fun _ _ _ h => h) (by rfl) ?ry12 (by assumption) ?rr12
          case ry12 => (intro wz hSw; (try dsimp only at hSw); go_simp; try with_reducible rfl)
          (try simp only [Act.put, List.setIfInBounds_toArray, List.set_cons_zero, List.set_cons_succ])
          refine reg_on (i := 4) (d := 39) (v := ?rv13) rfl rfl (by kernel_rfl) (by kernel_rfl) (by kernel_rfl) (fun _ _ _ h => h) (by rfl) ?ry13 (by assumption) ?rr13
          case ry13 => (intro wz hSw; (try dsimp only at hSw); go_simp; try with_reducible rfl)
          (try simp only [Act.put, List.setIfInBounds_toArray, List.set_cons_zero, List.set_cons_succ])
          refine reg_on (i := 5) (d := 40) (v := ?rv14) rfl rfl (by kernel_rfl) (by kernel_rfl) (by kernel_rfl) (fun _ _ _ h => h) (by rfl) ?ry14 (by assumption) ?rr14
          case ry14 => (intro wz hSw; (try dsimp only at hSw); go_simp; try with_reducible rfl)
          (try simp only [Act.put, List.setIfInBounds_toArray, List.set_cons_zero, List.set_cons_succ])
          refine wpAnyH_ready (rs := [6]) (by kernel_rfl) (by simp) ?_
          refine AllReadyH.cons rfl (fun K hK => ?_) AllReadyH.nil
          go_simp
          go_at_call 53; refine (HCP.out _).mono ?_; rintro e wx ⟨rfl, rfl⟩
          refine hK.out _ _ ?_ (fun hHeld => ?_)
          · ((try dsimp only); (repeat' apply And.intro); all_goals ((repeat (first | (with_reducible refine cell_drew ?_) | (with_reducible refine cell_drewN _ ?_) | ((with_reducible refine cell_alloc ?_ ?_); · first | omega | (simp; done) | (simp; omega) | assumption) | ((with_reducible refine cell_set ?_ ?_); · first | (intro e; injection e; omega) | (intro e; simp at e; done) | (intro e; simp at e; omega)))); first | assumption | (simp; done)))
          clear hK K
          (try simp only [Act.put, List.setIfInBounds_toArray, List.set_cons_zero, List.set_cons_succ])
          refine reg_on (i := 7) (d := 13) (v := ?rv16) rfl rfl (by kernel_rfl) (by kernel_rfl) (by kernel_rfl) (fun _ _ _ h => h) (by rfl) ?ry16 (by assumption) ?rr16
          case ry16 => (intro wz hSw; (try dsimp only at hSw); go_simp; try with_reducible rfl)
          (try simp only [Act.put, List.setIfInBounds_toArray, List.set_cons_zero, List.set_cons_succ])
          refine wpAnyH_done (by kernel_rfl) ?_ _
          generalize timesC v1 v2 = tv at *
          have wsum : IntKind.i64.wrap (sk + tv) = sk + tv := IntWalk.i64_in _ (by omega)
          clear d0 d1 d2 d3 k1 k2 k1d k2d HCP
          have BLD := Lib.hid BLA.out.drew
          clear BLA
          go_wp2
          all_goals
            go_roundw
            case rel => exact ⟨k + 1, by omega, by go_num, by rw [HST.out]; congr 1; unfold capS; split <;> omega, BLD.out⟩
            case measure => simp [intOf]; omega
        · have hkx : k = y - 1 := by omega
          have hnle : decide ((k : Int) + 1 ≤ (y : Int) - 1) = false := by simp; omega
          have HKX := Lib.hid hkx
          have HBl := Lib.hid hBl
          clear hBl hkx
          go_wp2_with fail
          refine (linesOf_any _ _ _ _ HB.out).mono ?_; rintro e w5 ⟨rfl, hb5⟩
          have bl5 : Below (w.heap.size + 1) W1 w5 := bcall (by omega) hb5 HBl.out
          have BL5 := Lib.hid bl5
          clear hb5 bl5 HBl e0 e1
          go_wp2
          go_roundw
          case rel => exact ⟨2, by omega, by go_num, by rw [HW.out.2, HKX.out], BL5.out⟩
          case measure => simp [intOf]
    · go_wp2
      go_ret
      exact ⟨ret_int HS.out.symm, BW.out.trans (hBl.mono (by omega))⟩

end Go.Proofs.Ytjfedmcejeeocaa
