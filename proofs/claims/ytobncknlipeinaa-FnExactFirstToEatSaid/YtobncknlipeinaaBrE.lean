/-
  Contract: the model's table of the least costs to eat.
-/
import Derived.Test.YtobncknlipeinaaEatR
import Derived.Test.YtobncknlipeinaaReg
import Derived.OwnWalk
import Derived.Deep.QuietTactic
import Derived.BigQuiet
namespace Go.Proofs.Ytobncknlipeinaa
open Go.RowKit Go.Maps
set_option linter.unusedVariables false
set_option linter.unusedSimpArgs false

theorem t3_info : (Try.prog.info? 45).map (fun i => (i.zero, i.size, i.bytes)) = some (some (.slice none 0 0), 1, 24) := by kernel_rfl
theorem t2_info : (Try.prog.info? 44).map (fun i => (i.zero, i.size, i.bytes)) = some (some (.slice none 0 0), 1, 24) := by kernel_rfl
theorem t1_info : (Try.prog.info? 3).map (fun i => (i.zero, i.size, i.bytes)) = some (some (.int .i64 0), 1, 8) := by kernel_rfl
theorem zero_row (N : Nat) : (madeCells #[Value.int .i64 0] (N + 1)).toList = intCells (rowL (fun _ => 0) N) := by
  simp [madeCells, intCells, rowL, Nat.mod_one]
theorem TabSt.start {w w1 : World} {X Y : Nat} {tab : List Value} (hg : (w.alloc (.cells #[.int .i64 X, .int .i64 Y] 26)).grownBy w1 none)
    (ho : w1.ownsRow (w.heap.size + 1) 45 1 (.slice (some ⟨w.heap.size + 1, 0, none⟩) (X + 1) (X + 1)) (X + 1) tab) : TabSt w w1 X Y 1 (fun _ _ _ => 0) tab := by
  have hb : Below (w.heap.size + 1) (w.alloc (.cells #[.int .i64 X, .int .i64 Y] 26)) w1 := (Below.refl _ _).grown hg (by simp) (fun k hk => by cases hk)
  have hbw : Below w.heap.size w w1 := ((Below.refl w.heap.size w).alloc (Nat.le_refl _) (.cells #[.int .i64 X, .int .i64 Y] 26)).trans (hb.mono (Nat.le_succ _))
  exact ⟨(hb.cell (p := ⟨w.heap.size, 0, none⟩) (show w.heap.size < w.heap.size + 1 by omega)).trans (by simp [go_sem]), (hb.cell (p := ⟨w.heap.size, 1, none⟩) (show w.heap.size < w.heap.size + 1 by omega)).trans (by simp [go_sem]), ho, fun a h1 h2 => by omega, DoneM.start _ _, hbw⟩

set_option maxRecDepth 100000 in
set_option maxHeartbeats 4000000 in
theorem brEat_any (X Y : Nat) (w : World) (hX1 : 1 ≤ X) (hX : X ≤ 12) (hY1 : 1 ≤ Y) (hY : Y ≤ 12) :
    Calls Try.prog 25 #[bar2 X Y] w fun e w' => ∃ M tab, e = .returned (.slice (some ⟨w.heap.size + 1, 0, none⟩) (X + 1) (X + 1)) ∧ TabSt w w' X Y (X + 1) M tab := by
  obtain ⟨i0, hi, hz0, hz1, hz2⟩ := info_parts t3_info
  obtain ⟨i1, hi1, hy0, hy1, hy2⟩ := info_parts t2_info
  obtain ⟨i2, hi2, hx0, hx1, hx2⟩ := info_parts t1_info
  have c0 : (w.alloc (.cells #[.int .i64 X, .int .i64 Y] 26)).cell? ⟨w.heap.size, 0, none⟩ = some (.int .i64 X) := by simp [go_sem]
  have c1 : (w.alloc (.cells #[.int .i64 X, .int .i64 Y] 26)).cell? ⟨w.heap.size, 1, none⟩ = some (.int .i64 Y) := by simp [go_sem]
  go_enter Try.func25, Try.ntmps25
  go_wp2_with (at_make; refine wpList_make_full _ rfl (.tmp 14) (.tmp 14) 46 rfl (w.heap.size + 1) 45 i0 (.slice none 0 0) 1 Try.underlying46 hi hz0 hz1 .i64 .i64 _ _ (X + 1) rfl rfl (by omega) (by omega) ?b2 ?b3 ?b4 ?_)
  case b2 => rw [hz2]; omega
  case b3 => simp only [maxLen]; omega
  case b4 => simp
  · intro w1 hownT hgrowT
    have hS0 := Lib.hid (TabSt.start hgrowT hownT)
    clear hgrowT hownT c0 c1
    go_wp2
    go_loopw [4] (fun i wr => ∃ (p : Nat) (M : C3) (tab : List Value), 1 ≤ p ∧ p ≤ X + 1 ∧ i = .int .i64 p ∧ Hid (TabSt w wr X Y p M tab)) (fun i _ => X + 1 - (intOf i).toNat)
    case atStart => exact ⟨1, _, _, by omega, by omega, rfl, hS0⟩
    case round =>
      clear hS0
      obtain ⟨p, M, tab, hp1, hpX, rfl, hS⟩ := hrel
      have e0 := hS.out.b0
      have e1 := hS.out.b1
      have hwl := hS.out.lt
      by_cases hlt : p ≤ X
      · have hlti : (p : Int) ≤ (X : Int) := by omega
        go_wp2_with (at_make; refine wpList_make_full _ rfl (.tmp 24) (.tmp 24) 45 rfl (w.heap.size + 1) 44 i1 (.slice none 0 0) 1 Try.underlying45 hi1 hy0 hy1 .i64 .i64 _ _ (Y + 1) rfl rfl (by omega) (by omega) ?b2 ?b3 ?b4 ?_)
        case b2 => rw [hy2]; omega
        case b3 => simp only [maxLen]; omega
        case b4 => omega
        · intro w2 hownR hgrowR
          have hC0 := Lib.hid (hS.out.col hgrowR hownR)
          clear hownR hgrowR hS e0 e1
          obtain ⟨g, hg⟩ : ∃ g, g = wr.heap.size := ⟨_, rfl⟩
          rw [← hg] at hC0 ⊢
          clear hg hwl
          go_wp2
          go_loopw [6] (fun i wr => ∃ (q : Nat) (M : C3) (cols : List Value), 1 ≤ q ∧ q ≤ Y + 1 ∧ i = .int .i64 q ∧ Hid (ColSt w wr X Y p q g M tab cols)) (fun i _ => Y + 1 - (intOf i).toNat)
          case atStart => exact ⟨1, _, _, by omega, by omega, rfl, hC0⟩
          case round =>
            clear hC0
            obtain ⟨q, M, cols, hq1, hqY, rfl, hC⟩ := hrel
            have e0 := hC.out.b0
            have e1 := hC.out.b1
            have hgw := hC.out.lt
            have hgl := hC.out.gl
            by_cases hlq : q ≤ Y
            · have hlqi : (q : Int) ≤ (Y : Int) := by omega
              obtain ⟨N, hN⟩ : ∃ N, Hid (N = p * q) := ⟨_, rfl⟩
              have hN144 : N ≤ 144 := by rw [hN.out]; exact Nat.le_trans (Nat.mul_le_mul (show p ≤ 12 by omega) (show q ≤ 12 by omega)) (by omega)
              have hN1 : 1 ≤ N := by rw [hN.out]; exact Nat.mul_pos hp1 hq1
              have hNi : (p : Int) * (q : Int) = (N : Int) := by rw [hN.out]; exact (Int.natCast_mul p q).symm
              have wN : IntKind.i64.wrap ((p : Int) * (q : Int)) = (N : Int) := by rw [hNi]; exact IntWalk.i64_in _ ⟨by omega, by omega⟩
              go_wp2_with (at_make; refine wpList_make_full _ rfl (.tmp 38) (.tmp 38) 44 rfl (w.heap.size + 1) 3 i2 (.int .i64 0) 1 Try.underlying44 hi2 hx0 hx1 .i64 .i64 _ _ (N + 1) rfl rfl (by omega) (by omega) ?b2 ?b3 ?b4 ?_)
              case b2 => rw [hx2]; omega
              case b3 => simp only [maxLen]; omega
              case b4 => simp; omega
              · intro w3 hownC hgrowC
                rw [zero_row] at hownC
                have hCa := hC.out.below ((Below.refl wr.heap.size wr).alloc (Nat.le_refl _) (.cells #[.int .i64 p, .int .i64 q] 26))
                have hR0 := Lib.hid (hCa.row (pb := wr.heap.size) hN.out hgrowC (by omega) (by simp) (by simp [go_sem]) (by simp [go_sem]) (by rw [show (wr.alloc (.cells #[.int .i64 p, .int .i64 q] 26)).heap.size = wr.heap.size + 1 by simp]; exact hownC))
                clear hownC hgrowC hCa hC e0 e1
                obtain ⟨pb, hpb⟩ : ∃ pb, pb = wr.heap.size := ⟨_, rfl⟩
                have hsz : (wr.alloc (.cells #[.int .i64 p, .int .i64 q] 26)).heap.size = pb + 1 := by simp [hpb]
                rw [hsz, ← hpb] at hR0
                (try rw [hsz])
                (try rw [← hpb])
                obtain ⟨r, hr⟩ : ∃ r, r = pb + 1 := ⟨_, rfl⟩
                rw [← hr] at hR0
                (try rw [← hr])
                clear hsz
                go_wp2
                go_loopw [9] (fun i wr => ∃ (s : Nat) (f : Nat → Int), 1 ≤ s ∧ s ≤ N ∧ i = .int .i64 s ∧ Hid (RowSt w wr X Y p q N g pb r M f tab cols) ∧ Hid (f 0 = 0 ∧ (∀ k, s ≤ k → f k = 0) ∧ ∀ k, 0 < k → k < s → IsMin (CandM M p q k) (f k))) (fun i _ => N - (intOf i).toNat)
                case atStart => exact ⟨1, _, by omega, by omega, rfl, hR0, rfl, fun k _ => rfl, fun k h1 h2 => by omega⟩
                case round =>
                  clear hR0 hpb hr
                  obtain ⟨s, f, hs1, hsN, rfl, hRf, hf⟩ := hrel
                  have hgl0 := hRf.out.gl
                  have hpl0 := hRf.out.pl
                  have hrl0 := hRf.out.rl
                  have hrw0 := hRf.out.lt
                  by_cases hls : s < N
                  · have hlsi : (s : Int) < (N : Int) := by omega
                    have hc := hRf.out.cell hsN
                    obtain ⟨a0, f0⟩ := hc
                    have hRs := Lib.hid (hRf.out.set hsN (-1))
                    have y1 : s < N + 1 := by omega
                    have y2 : (s : Int) < (N : Int) + 1 := by omega
                    clear hRf
                    go_wp2
                    go_loopw [10] (fun i wr => ∃ (t : Nat) (v : Int), 1 ≤ t ∧ t ≤ p ∧ i = .int .i64 t ∧ -1 ≤ v ∧ v ≤ 300000 ∧ Hid (RowSt w wr X Y p q N g pb r M (updF f s v) tab cols) ∧ Hid (IsMin (fun x => ∃ t2, 1 ≤ t2 ∧ t2 < t ∧ CandD M p q s t2 x) v)) (fun i _ => p - (intOf i).toNat)
                    case atStart => exact ⟨1, -1, by omega, by omega, rfl, by omega, by omega, hRs, IsMin.none fun x ⟨t2, h1, h2, _⟩ => by omega⟩
                    case round =>
                      clear hRs a0 f0
                      obtain ⟨t, v, ht1, htp, rfl, hv1, hv2, hRS, hmin⟩ := hrel
                      by_cases hltt : t < p
                      · have hltti : (t : Int) < (p : Int) := by omega
                        obtain ⟨u, hu⟩ : ∃ u, Hid (u = p - t) := ⟨_, rfl⟩
                        have hu1 : 1 ≤ u ∧ u < p ∧ t + u = p := by have := hu.out; omega
                        have hR := hRS.out
                        have hgl := hR.gl
                        have hpl := hR.pl
                        have hrl := hR.rl
                        have hrw := hR.lt
                        obtain ⟨ga, ga1, ga2, gac, gacol⟩ := hR.tb t ht1 hltt
                        obtain ⟨ra, ra1, ra2, rac, rar⟩ := gacol q hq1 (by omega)
                        obtain ⟨gb, gb1, gb2, gbc, gbcol⟩ := hR.tb u hu1.1 hu1.2.1
                        obtain ⟨rb, rb1, rb2, rbc, rbr⟩ := gbcol q hq1 (by omega)
                        obtain ⟨la, hla⟩ : ∃ la, Hid (la = t * q) := ⟨_, rfl⟩
                        obtain ⟨lb, hlb⟩ : ∃ lb, Hid (lb = u * q) := ⟨_, rfl⟩
                        have hlab : la + lb = N := by rw [hla.out, hlb.out, hN.out, ← hu1.2.2]; exact (Nat.add_mul t u q).symm
                        rw [← hla.out] at rac rar
                        rw [← hlb.out] at rbc rbr
                        have HVA : Hid (∀ k, k ≤ la → 0 ≤ M t q k ∧ M t q k ≤ 100000) := fun k hk => hR.dn.le (by omega) hY (by omega) (by omega) (by omega) (by omega) (by omega) (by rw [← hla.out]; exact hk)
                        have HVB : Hid (∀ k, k ≤ lb → 0 ≤ M u q k ∧ M u q k ≤ 100000) := fun k hk => hR.dn.le (by omega) hY (by omega) (by omega) (by omega) (by omega) (by omega) (by rw [← hlb.out]; exact hk)
                        have HSU : Hid (∀ wx : World, Below wr.heap.size wr wx → Calls Try.prog 29 #[.slice (some ⟨ra, 0, none⟩) (la + 1) (la + 1), .slice (some ⟨rb, 0, none⟩) (lb + 1) (lb + 1), .int .i64 s] wx fun e w' => ∃ z, e = .returned (.int .i64 z) ∧ Hid (IsMin (SumS (rowL (M t q) la) (rowL (M u q) lb) s) z) ∧ 0 ≤ z ∧ z ≤ 200000 ∧ Below wx.heap.size wx w') := by
                          intro wx hb
                          refine (brSum_any _ _ _ _ _ _ s (rowL (M t q) la) (rowL (M u q) lb) wx (rar.below hb (by omega)).rd (rbr.below hb (by omega)).rd (by omega) (by omega) (by omega) (by omega) (fun k hk => by rw [rowL_at (by omega)]; exact HVA.out k (by omega)) (fun k hk => by rw [rowL_at (by omega)]; exact HVB.out k (by omega))).mono ?_
                          rintro e w' ⟨z, rfl, hz, hb'⟩
                          have hx : SumS (rowL (M t q) la) (rowL (M u q) lb) s (M t q (min s la) + M u q (s - min s la)) := sumS_row.2 ⟨min s la, by omega, by omega, by omega, rfl⟩
                          have h1 := HVA.out (min s la) (by omega)
                          have h2 := HVB.out (s - min s la) (by omega)
                          have h3 := hz.le hx
                          exact ⟨z, rfl, hz, by omega, by omega, hb'⟩
                        obtain ⟨pc, hpc⟩ : ∃ pc, Hid (pc = q * q) := ⟨_, rfl⟩
                        have hpc144 : pc ≤ 144 := by rw [hpc.out]; exact sq_le (by omega)
                        have HPR : Hid (∀ wx : World, Calls Try.prog 30 #[bar2 p q, .bool true] wx fun e w' => e = .returned (.int .i64 (pc : Nat)) ∧ Below wx.heap.size wx w') := by
                          intro wx
                          rw [hpc.out]
                          exact brPrice_any p q true wx (by omega) (by omega)
                        have HCELL : Hid (∀ wx : World, Below wr.heap.size wr wx → wx.cell? ⟨r, s, none⟩ = some (.int .i64 v) ∧ wx.frozen? ⟨r, s, none⟩ = false) := by
                          intro wx hb
                          have h := (hR.below hb).cell (s := s) (by omega)
                          rw [updF_at] at h
                          exact h
                        have HNEXT : Hid (∀ (wx : World) (z : Int), Below wr.heap.size wr wx → RowSt w (wx.setCell ⟨r, s, none⟩ (.int .i64 z)) X Y p q N g pb r M (updF f s z) tab cols) := by
                          intro wx z hb
                          have h := (hR.below hb).set (s := s) (by omega) z
                          rw [updF_upd] at h
                          exact h
                        have HMIN : Hid (∀ z, IsMin (SumS (rowL (M t q) la) (rowL (M u q) lb) s) z → 0 ≤ z → IsMin (fun x => ∃ t2, 1 ≤ t2 ∧ t2 < t + 1 ∧ CandD M p q s t2 x) (lessI v (z + (pc : Int)))) := by
                          intro z hz z0
                          have h1 := (hmin.out).less (hz.plus z0 (show (0 : Int) ≤ (pc : Int) by omega)) (by omega)
                          refine h1.congr fun x => ?_
                          have hc := candD_sum (M := M) (a := p) (b := q) (s := s) (t := t) (x := x)
                          rw [← hu.out, ← hla.out, ← hlb.out, ← hpc.out] at hc
                          constructor
                          · rintro (⟨t2, h1, h2, h3⟩ | h)
                            · exact ⟨t2, h1, by omega, h3⟩
                            · exact ⟨t, ht1, by omega, hc.2 h⟩
                          · rintro ⟨t2, h1, h2, h3⟩
                            by_cases e : t2 = t
                            · subst e; exact .inr (hc.1 h3)
                            · exact .inl ⟨t2, h1, by omega, h3⟩
                        have HLES : Hid (∀ z : Int, 0 ≤ z → z ≤ 300000 → -1 ≤ lessI v z ∧ lessI v z ≤ 300000) := by
                          intro z z0 z1
                          unfold lessI
                          split <;> omega
                        have d4 := hR.p0
                        have d5 := hR.p1
                        have d6 := (hR.cell (s := s) (by omega)).1
                        rw [updF_at] at d6
                        have wsub : IntKind.i64.wrap ((p : Int) - (t : Int)) = (u : Int) := by rw [IntWalk.i64_in _ (by omega)]; omega
                        clear hR hmin rar rbr gacol gbcol
                        have x3 : (0 : Int) ≤ (u : Int) := by omega
                        have x2 : (t : Int) < (X : Int) + 1 := by omega
                        have x4 : (u : Int) < (X : Int) + 1 := by omega
                        have x6 : (q : Int) < (Y : Int) + 1 := by omega
                        have x7 : q < Y + 1 := by omega
                        have x8 : u < X + 1 := by omega
                        have x9 : t < X + 1 := by omega
                        have x10 : s < N + 1 := by omega
                        have x11 : (s : Int) < (N : Int) + 1 := by omega
                        have HK0 : Hid (∀ wx : World, Below wr.heap.size wr wx → wx.cell? ⟨w.heap.size + 1, t, none⟩ = some (.slice (some ⟨ga, 0, none⟩) (Y + 1) (Y + 1))) := fun wx hb => (hb.cell (p := ⟨w.heap.size + 1, t, none⟩) (by show w.heap.size + 1 < wr.heap.size; omega)).trans (by assumption)
                        have HK1 : Hid (∀ wx : World, Below wr.heap.size wr wx → wx.cell? ⟨ga, q, none⟩ = some (.slice (some ⟨ra, 0, none⟩) (la + 1) (la + 1))) := fun wx hb => (hb.cell (p := ⟨ga, q, none⟩) (by show ga < wr.heap.size; omega)).trans (by assumption)
                        have HK2 : Hid (∀ wx : World, Below wr.heap.size wr wx → wx.cell? ⟨w.heap.size + 1, u, none⟩ = some (.slice (some ⟨gb, 0, none⟩) (Y + 1) (Y + 1))) := fun wx hb => (hb.cell (p := ⟨w.heap.size + 1, u, none⟩) (by show w.heap.size + 1 < wr.heap.size; omega)).trans (by assumption)
                        have HK3 : Hid (∀ wx : World, Below wr.heap.size wr wx → wx.cell? ⟨gb, q, none⟩ = some (.slice (some ⟨rb, 0, none⟩) (lb + 1) (lb + 1))) := fun wx hb => (hb.cell (p := ⟨gb, q, none⟩) (by show gb < wr.heap.size; omega)).trans (by assumption)
                        have HK4 : Hid (∀ wx : World, Below wr.heap.size wr wx → wx.cell? ⟨pb, 0, none⟩ = some (.int .i64 (p : Int))) := fun wx hb => (hb.cell (p := ⟨pb, 0, none⟩) (by show pb < wr.heap.size; omega)).trans (by assumption)
                        have HK5 : Hid (∀ wx : World, Below wr.heap.size wr wx → wx.cell? ⟨pb, 1, none⟩ = some (.int .i64 (q : Int))) := fun wx hb => (hb.cell (p := ⟨pb, 1, none⟩) (by show pb < wr.heap.size; omega)).trans (by assumption)
                        obtain ⟨wo, rfl⟩ : ∃ wo : World, wo = wr := ⟨_, rfl⟩
                        go_wp2
                        refine wp_region_held_drew (S := (fun w' => w'.cell? ⟨w.heap.size + 1, t, none⟩ = some (.slice (some ⟨ga, 0, none⟩) (Y + 1) (Y + 1)) ∧ w'.cell? ⟨ga, q, none⟩ = some (.slice (some ⟨ra, 0, none⟩) (la + 1) (la + 1)) ∧ w'.cell? ⟨w.heap.size + 1, u, none⟩ = some (.slice (some ⟨gb, 0, none⟩) (Y + 1) (Y + 1)) ∧ w'.cell? ⟨gb, q, none⟩ = some (.slice (some ⟨rb, 0, none⟩) (lb + 1) (lb + 1)) ∧ w'.cell? ⟨pb, 0, none⟩ = some (.int .i64 (p : Int)) ∧ w'.cell? ⟨pb, 1, none⟩ = some (.int .i64 (q : Int)))) (by kernel_rfl) ?_ (fun hHeld => ?_)
                        · ((try dsimp only); (repeat' apply And.intro); all_goals ((repeat (first | (with_reducible refine cell_drew ?_) | (with_reducible refine cell_drewN _ ?_) | ((with_reducible refine cell_alloc ?_ ?_); · first | omega | (simp; done) | (simp; omega) | assumption) | ((with_reducible refine cell_set ?_ ?_); · first | (intro e; injection e; omega) | (intro e; simp at e; done) | (intro e; simp at e; omega)))); first | assumption | (simp; done)))
                        refine reg_on (i := 0) (d := 55) (v := ?rv1) rfl rfl (by kernel_rfl) (by kernel_rfl) (by kernel_rfl) (fun _ _ _ h => h) (by rfl) ?ry1 (by assumption) ?rr1
                        case ry1 => (intro wz hSw; (try dsimp only at hSw); go_simp; try with_reducible rfl)
                        (try simp only [Act.put, List.setIfInBounds_toArray, List.set_cons_zero, List.set_cons_succ])
                        refine reg_on (i := 1) (d := 56) (v := ?rv2) rfl rfl (by kernel_rfl) (by kernel_rfl) (by kernel_rfl) (fun _ _ _ h => h) (by rfl) ?ry2 (by assumption) ?rr2
                        case ry2 => (intro wz hSw; (try dsimp only at hSw); go_simp; try with_reducible rfl)
                        (try simp only [Act.put, List.setIfInBounds_toArray, List.set_cons_zero, List.set_cons_succ])
                        refine reg_on (i := 2) (d := 57) (v := ?rv3) rfl rfl (by kernel_rfl) (by kernel_rfl) (by kernel_rfl) (fun _ _ _ h => h) (by rfl) ?ry3 (by assumption) ?rr3
                        case ry3 => (intro wz hSw; (try dsimp only at hSw); go_simp; try with_reducible rfl)
                        (try simp only [Act.put, List.setIfInBounds_toArray, List.set_cons_zero, List.set_cons_succ])
                        refine reg_on (i := 3) (d := 58) (v := ?rv4) rfl rfl (by kernel_rfl) (by kernel_rfl) (by kernel_rfl) (fun _ _ _ h => h) (by rfl) ?ry4 (by assumption) ?rr4
                        case ry4 => (intro wz hSw; (try dsimp only at hSw); go_simp; try with_reducible rfl)
                        (try simp only [Act.put, List.setIfInBounds_toArray, List.set_cons_zero, List.set_cons_succ])
                        refine reg_on (i := 4) (d := 59) (v := ?rv5) rfl rfl (by kernel_rfl) (by kernel_rfl) (by kernel_rfl) (fun _ _ _ h => h) (by rfl) ?ry5 (by assumption) ?rr5
                        case ry5 => (intro wz hSw; (try dsimp only at hSw); go_simp; try with_reducible rfl)
                        (try simp only [Act.put, List.setIfInBounds_toArray, List.set_cons_zero, List.set_cons_succ])
                        refine reg_on (i := 6) (d := 61) (v := ?rv6) rfl rfl (by kernel_rfl) (by kernel_rfl) (by kernel_rfl) (fun _ _ _ h => h) (by rfl) ?ry6 (by assumption) ?rr6
                        case ry6 => (intro wz hSw; (try dsimp only at hSw); go_simp; try with_reducible rfl)
                        (try simp only [Act.put, List.setIfInBounds_toArray, List.set_cons_zero, List.set_cons_succ])
                        refine reg_on (i := 7) (d := 62) (v := ?rv7) rfl rfl (by kernel_rfl) (by kernel_rfl) (by kernel_rfl) (fun _ _ _ h => h) (by rfl) ?ry7 (by assumption) ?rr7
                        case ry7 => (intro wz hSw; (try dsimp only at hSw); go_simp; try with_reducible rfl)
                        (try simp only [Act.put, List.setIfInBounds_toArray, List.set_cons_zero, List.set_cons_succ])
                        refine reg_on (i := 8) (d := 63) (v := ?rv8) rfl rfl (by kernel_rfl) (by kernel_rfl) (by kernel_rfl) (fun _ _ _ h => h) (by rfl) ?ry8 (by assumption) ?rr8
                        case ry8 => (intro wz hSw; (try dsimp only at hSw); go_simp; try with_reducible rfl)
                        (try simp only [Act.put, List.setIfInBounds_toArray, List.set_cons_zero, List.set_cons_succ])
                        refine reg_on (i := 9) (d := 64) (v := ?rv9) rfl rfl (by kernel_rfl) (by kernel_rfl) (by kernel_rfl) (fun _ _ _ h => h) (by rfl) ?ry9 (by assumption) ?rr9
                        case ry9 => (intro wz hSw; (try dsimp only at hSw); go_simp; try with_reducible rfl)
                        (try simp only [Act.put, List.setIfInBounds_toArray, List.set_cons_zero, List.set_cons_succ])
                        refine reg_on (i := 10) (d := 65) (v := ?rv10) rfl rfl (by kernel_rfl) (by kernel_rfl) (by kernel_rfl) (fun _ _ _ h => h) (by rfl) ?ry10 (by assumption) ?rr10
                        case ry10 => (intro wz hSw; (try dsimp only at hSw); go_simp; try with_reducible rfl)
                        (try simp only [Act.put, List.setIfInBounds_toArray, List.set_cons_zero, List.set_cons_succ])
                        refine reg_on (i := 11) (d := 66) (v := ?rv11) rfl rfl (by kernel_rfl) (by kernel_rfl) (by kernel_rfl) (fun _ _ _ h => h) (by rfl) ?ry11 (by assumption) ?rr11
                        case ry11 => (intro wz hSw; (try dsimp only at hSw); go_simp; try with_reducible rfl)
                        (try simp only [Act.put, List.setIfInBounds_toArray, List.set_cons_zero, List.set_cons_succ])
                        refine reg_on (i := 12) (d := 67) (v := ?rv12) rfl rfl (by kernel_rfl) (by kernel_rfl) (by kernel_rfl) (fun _ _ _ h => h) (by rfl) ?ry12 (by assumption) ?rr12
                        case ry12 => (intro wz hSw; (try dsimp only at hSw); go_simp; try with_reducible rfl)
                        (try simp only [Act.put, List.setIfInBounds_toArray, List.set_cons_zero, List.set_cons_succ])
                        refine reg_on (i := 13) (d := 68) (v := ?rv13) rfl rfl (by kernel_rfl) (by kernel_rfl) (by kernel_rfl) (fun _ _ _ h => h) (by rfl) ?ry13 (by assumption) ?rr13
                        case ry13 => (intro wz hSw; (try dsimp only at hSw); go_simp; try with_reducible rfl)
                        (try simp only [Act.put, List.setIfInBounds_toArray, List.set_cons_zero, List.set_cons_succ])
                        refine reg_on (i := 14) (d := 69) (v := ?rv14) rfl rfl (by kernel_rfl) (by kernel_rfl) (by kernel_rfl) (fun _ _ _ h => h) (by rfl) ?ry14 (by assumption) ?rr14
                        case ry14 => (intro wz hSw; (try dsimp only at hSw); go_simp; try with_reducible rfl)
                        (try simp only [Act.put, List.setIfInBounds_toArray, List.set_cons_zero, List.set_cons_succ])
                        refine reg_on (i := 15) (d := 70) (v := ?rv15) rfl rfl (by kernel_rfl) (by kernel_rfl) (by kernel_rfl) (fun _ _ _ h => h) (by rfl) ?ry15 (by assumption) ?rr15
                        case ry15 => (intro wz hSw; (try dsimp only at hSw); go_simp; try with_reducible rfl)
                        (try simp only [Act.put, List.setIfInBounds_toArray, List.set_cons_zero, List.set_cons_succ])
                        refine reg_on (i := 16) (d := 71) (v := ?rv16) rfl rfl (by kernel_rfl) (by kernel_rfl) (by kernel_rfl) (fun _ _ _ h => h) (by rfl) ?ry16 (by assumption) ?rr16
                        case ry16 => (intro wz hSw; (try dsimp only at hSw); go_simp; try with_reducible rfl)
                        (try simp only [Act.put, List.setIfInBounds_toArray, List.set_cons_zero, List.set_cons_succ])
                        refine reg_on (i := 17) (d := 72) (v := ?rv17) rfl rfl (by kernel_rfl) (by kernel_rfl) (by kernel_rfl) (fun _ _ _ h => h) (by rfl) ?ry17 (by assumption) ?rr17
                        case ry17 => (intro wz hSw; (try dsimp only at hSw); go_simp; try with_reducible rfl)
                        (try simp only [Act.put, List.setIfInBounds_toArray, List.set_cons_zero, List.set_cons_succ])
                        refine reg_on (i := 18) (d := 73) (v := ?rv18) rfl rfl (by kernel_rfl) (by kernel_rfl) (by kernel_rfl) (fun _ _ _ h => h) (by rfl) ?ry18 (by assumption) ?rr18
                        case ry18 => (intro wz hSw; (try dsimp only at hSw); go_simp; try with_reducible rfl)
                        (try simp only [Act.put, List.setIfInBounds_toArray, List.set_cons_zero, List.set_cons_succ])
                        refine reg_on (i := 19) (d := 74) (v := ?rv19) rfl rfl (by kernel_rfl) (by kernel_rfl) (by kernel_rfl) (fun _ _ _ h => h) (by rfl) ?ry19 (by assumption) ?rr19
                        case ry19 => (intro wz hSw; (try dsimp only at hSw); go_simp; try with_reducible rfl)
                        (try simp only [Act.put, List.setIfInBounds_toArray, List.set_cons_zero, List.set_cons_succ])
                        refine reg_on (i := 20) (d := 75) (v := ?rv20) rfl rfl (by kernel_rfl) (by kernel_rfl) (by kernel_rfl) (fun _ _ _ h => h) (by rfl) ?ry20 (by assumption) ?rr20
                        case ry20 => (intro wz hSw; (try dsimp only at hSw); go_simp; try with_reducible rfl)
                        (try simp only [Act.put, List.setIfInBounds_toArray, List.set_cons_zero, List.set_cons_succ])
                        refine reg_on (i := 21) (d := 76) (v := ?rv21) rfl rfl (by kernel_rfl) (by kernel_rfl) (by kernel_rfl) (fun _ _ _ h => h) (by rfl) ?ry21 (by assumption) ?rr21
                        case ry21 => (intro wz hSw; (try dsimp only at hSw); go_simp; try with_reducible rfl)
                        (try simp only [Act.put, List.setIfInBounds_toArray, List.set_cons_zero, List.set_cons_succ])
                        refine reg_on (i := 22) (d := 77) (v := ?rv22) rfl rfl (by kernel_rfl) (by kernel_rfl) (by kernel_rfl) (fun _ _ _ h => h) (by rfl) ?ry22 (by assumption) ?rr22
                        case ry22 => (intro wz hSw; (try dsimp only at hSw); go_simp; try with_reducible rfl)
                        (try simp only [Act.put, List.setIfInBounds_toArray, List.set_cons_zero, List.set_cons_succ])
                        refine reg_on (i := 24) (d := 79) (v := ?rv23) rfl rfl (by kernel_rfl) (by kernel_rfl) (by kernel_rfl) (fun _ _ _ h => h) (by rfl) ?ry23 (by assumption) ?rr23
                        case ry23 => (intro wz hSw; (try dsimp only at hSw); go_simp; try with_reducible rfl)
                        (try simp only [Act.put, List.setIfInBounds_toArray, List.set_cons_zero, List.set_cons_succ])
                        refine wpAnyH_ready (rs := [5, 23]) (by kernel_rfl) (by simp) ?_
                        refine AllReadyH.cons rfl (fun K hK => ?_) (AllReadyH.cons rfl (fun K hK => ?_) (AllReadyH.nil))
                        ·
                          go_simp
                          refine hK.out _ _ ?_ (fun hHeld => ?_)
                          · ((try dsimp only); (repeat' apply And.intro); all_goals ((repeat (first | (with_reducible refine cell_drew ?_) | (with_reducible refine cell_drewN _ ?_) | ((with_reducible refine cell_alloc ?_ ?_); · first | omega | (simp; done) | (simp; omega) | assumption) | ((with_reducible refine cell_set ?_ ?_); · first | (intro e; injection e; omega) | (intro e; simp at e; done) | (intro e; simp at e; omega)))); first | assumption | (simp; done)))
                          clear hK K
                          (try simp only [Act.put, List.setIfInBounds_toArray, List.set_cons_zero, List.set_cons_succ])
                          refine wpAnyH_ready (rs := [23]) (by kernel_rfl) (by simp) ?_
                          refine AllReadyH.cons rfl (fun K hK => ?_) (AllReadyH.nil)
                          go_simp
                          go_at_call 29; refine (HSU.out _ (by (repeat (first | (with_reducible exact Below.refl _ _) | (with_reducible assumption) | (with_reducible refine Below.drew ?_) | ((with_reducible refine balloc ?_ _ ?_); · (first | (simp; done) | (simp; omega) | omega)) | ((with_reducible refine bset ?_ _ ?_); · (first | (simp; done) | (simp; omega) | omega)) | (with_reducible refine bdrewN _ ?_) | ((with_reducible refine bcall ?_ (by assumption) ?_); · (first | (simp; done) | (simp; omega) | omega)))))).mono ?_; rintro e wa ⟨z, rfl, hz, z0, z1, hba⟩; have sa := hba.size; (try simp at sa); have kwa0 : wa.cell? ⟨w.heap.size + 1, t, none⟩ = some (.slice (some ⟨ga, 0, none⟩) (Y + 1) (Y + 1)) := (HK0.out _ (by (repeat (first | (with_reducible exact Below.refl _ _) | (with_reducible assumption) | (with_reducible refine Below.drew ?_) | ((with_reducible refine balloc ?_ _ ?_); · (first | (simp; done) | (simp; omega) | omega)) | ((with_reducible refine bset ?_ _ ?_); · (first | (simp; done) | (simp; omega) | omega)) | (with_reducible refine bdrewN _ ?_) | ((with_reducible refine bcall ?_ (by assumption) ?_); · (first | (simp; done) | (simp; omega) | omega)))))); have kwa1 : wa.cell? ⟨ga, q, none⟩ = some (.slice (some ⟨ra, 0, none⟩) (la + 1) (la + 1)) := (HK1.out _ (by (repeat (first | (with_reducible exact Below.refl _ _) | (with_reducible assumption) | (with_reducible refine Below.drew ?_) | ((with_reducible refine balloc ?_ _ ?_); · (first | (simp; done) | (simp; omega) | omega)) | ((with_reducible refine bset ?_ _ ?_); · (first | (simp; done) | (simp; omega) | omega)) | (with_reducible refine bdrewN _ ?_) | ((with_reducible refine bcall ?_ (by assumption) ?_); · (first | (simp; done) | (simp; omega) | omega)))))); have kwa2 : wa.cell? ⟨w.heap.size + 1, u, none⟩ = some (.slice (some ⟨gb, 0, none⟩) (Y + 1) (Y + 1)) := (HK2.out _ (by (repeat (first | (with_reducible exact Below.refl _ _) | (with_reducible assumption) | (with_reducible refine Below.drew ?_) | ((with_reducible refine balloc ?_ _ ?_); · (first | (simp; done) | (simp; omega) | omega)) | ((with_reducible refine bset ?_ _ ?_); · (first | (simp; done) | (simp; omega) | omega)) | (with_reducible refine bdrewN _ ?_) | ((with_reducible refine bcall ?_ (by assumption) ?_); · (first | (simp; done) | (simp; omega) | omega)))))); have kwa3 : wa.cell? ⟨gb, q, none⟩ = some (.slice (some ⟨rb, 0, none⟩) (lb + 1) (lb + 1)) := (HK3.out _ (by (repeat (first | (with_reducible exact Below.refl _ _) | (with_reducible assumption) | (with_reducible refine Below.drew ?_) | ((with_reducible refine balloc ?_ _ ?_); · (first | (simp; done) | (simp; omega) | omega)) | ((with_reducible refine bset ?_ _ ?_); · (first | (simp; done) | (simp; omega) | omega)) | (with_reducible refine bdrewN _ ?_) | ((with_reducible refine bcall ?_ (by assumption) ?_); · (first | (simp; done) | (simp; omega) | omega)))))); have kwa4 : wa.cell? ⟨pb, 0, none⟩ = some (.int .i64 (p : Int)) := (HK4.out _ (by (repeat (first | (with_reducible exact Below.refl _ _) | (with_reducible assumption) | (with_reducible refine Below.drew ?_) | ((with_reducible refine balloc ?_ _ ?_); · (first | (simp; done) | (simp; omega) | omega)) | ((with_reducible refine bset ?_ _ ?_); · (first | (simp; done) | (simp; omega) | omega)) | (with_reducible refine bdrewN _ ?_) | ((with_reducible refine bcall ?_ (by assumption) ?_); · (first | (simp; done) | (simp; omega) | omega)))))); have kwa5 : wa.cell? ⟨pb, 1, none⟩ = some (.int .i64 (q : Int)) := (HK5.out _ (by (repeat (first | (with_reducible exact Below.refl _ _) | (with_reducible assumption) | (with_reducible refine Below.drew ?_) | ((with_reducible refine balloc ?_ _ ?_); · (first | (simp; done) | (simp; omega) | omega)) | ((with_reducible refine bset ?_ _ ?_); · (first | (simp; done) | (simp; omega) | omega)) | (with_reducible refine bdrewN _ ?_) | ((with_reducible refine bcall ?_ (by assumption) ?_); · (first | (simp; done) | (simp; omega) | omega)))))); have BWA : Below wo.heap.size wo wa := (by (repeat (first | (with_reducible exact Below.refl _ _) | (with_reducible assumption) | (with_reducible refine Below.drew ?_) | ((with_reducible refine balloc ?_ _ ?_); · (first | (simp; done) | (simp; omega) | omega)) | ((with_reducible refine bset ?_ _ ?_); · (first | (simp; done) | (simp; omega) | omega)) | (with_reducible refine bdrewN _ ?_) | ((with_reducible refine bcall ?_ (by assumption) ?_); · (first | (simp; done) | (simp; omega) | omega))))); have cva := (HCELL.out wa BWA).1
                          refine hK.out _ _ ?_ (fun hHeld => ?_)
                          · ((try dsimp only); (repeat' apply And.intro); all_goals ((repeat (first | (with_reducible refine cell_drew ?_) | (with_reducible refine cell_drewN _ ?_) | ((with_reducible refine cell_alloc ?_ ?_); · first | omega | (simp; done) | (simp; omega) | assumption) | ((with_reducible refine cell_set ?_ ?_); · first | (intro e; injection e; omega) | (intro e; simp at e; done) | (intro e; simp at e; omega)))); first | assumption | (simp; done)))
                          clear hK K
                          (try simp only [Act.put, List.setIfInBounds_toArray, List.set_cons_zero, List.set_cons_succ])
                          refine wpAnyH_ready (rs := [25]) (by kernel_rfl) (by simp) ?_
                          refine AllReadyH.cons rfl (fun K hK => ?_) (AllReadyH.nil)
                          go_simp
                          go_at_call 30; refine (HPR.out _).mono ?_; rintro e wb ⟨rfl, hbb⟩; have sb := hbb.size; (try simp at sb); have BWB : Below wo.heap.size wo wb := (by (repeat (first | (with_reducible exact Below.refl _ _) | (with_reducible assumption) | (with_reducible refine Below.drew ?_) | ((with_reducible refine balloc ?_ _ ?_); · (first | (simp; done) | (simp; omega) | omega)) | ((with_reducible refine bset ?_ _ ?_); · (first | (simp; done) | (simp; omega) | omega)) | (with_reducible refine bdrewN _ ?_) | ((with_reducible refine bcall ?_ (by assumption) ?_); · (first | (simp; done) | (simp; omega) | omega))))); have cvb := (HCELL.out wb BWB).1; have fvb := (HCELL.out wb BWB).2; have kwb0 : wb.cell? ⟨w.heap.size + 1, t, none⟩ = some (.slice (some ⟨ga, 0, none⟩) (Y + 1) (Y + 1)) := (HK0.out _ (by (repeat (first | (with_reducible exact Below.refl _ _) | (with_reducible assumption) | (with_reducible refine Below.drew ?_) | ((with_reducible refine balloc ?_ _ ?_); · (first | (simp; done) | (simp; omega) | omega)) | ((with_reducible refine bset ?_ _ ?_); · (first | (simp; done) | (simp; omega) | omega)) | (with_reducible refine bdrewN _ ?_) | ((with_reducible refine bcall ?_ (by assumption) ?_); · (first | (simp; done) | (simp; omega) | omega)))))); have kwb1 : wb.cell? ⟨ga, q, none⟩ = some (.slice (some ⟨ra, 0, none⟩) (la + 1) (la + 1)) := (HK1.out _ (by (repeat (first | (with_reducible exact Below.refl _ _) | (with_reducible assumption) | (with_reducible refine Below.drew ?_) | ((with_reducible refine balloc ?_ _ ?_); · (first | (simp; done) | (simp; omega) | omega)) | ((with_reducible refine bset ?_ _ ?_); · (first | (simp; done) | (simp; omega) | omega)) | (with_reducible refine bdrewN _ ?_) | ((with_reducible refine bcall ?_ (by assumption) ?_); · (first | (simp; done) | (simp; omega) | omega)))))); have kwb2 : wb.cell? ⟨w.heap.size + 1, u, none⟩ = some (.slice (some ⟨gb, 0, none⟩) (Y + 1) (Y + 1)) := (HK2.out _ (by (repeat (first | (with_reducible exact Below.refl _ _) | (with_reducible assumption) | (with_reducible refine Below.drew ?_) | ((with_reducible refine balloc ?_ _ ?_); · (first | (simp; done) | (simp; omega) | omega)) | ((with_reducible refine bset ?_ _ ?_); · (first | (simp; done) | (simp; omega) | omega)) | (with_reducible refine bdrewN _ ?_) | ((with_reducible refine bcall ?_ (by assumption) ?_); · (first | (simp; done) | (simp; omega) | omega)))))); have kwb3 : wb.cell? ⟨gb, q, none⟩ = some (.slice (some ⟨rb, 0, none⟩) (lb + 1) (lb + 1)) := (HK3.out _ (by (repeat (first | (with_reducible exact Below.refl _ _) | (with_reducible assumption) | (with_reducible refine Below.drew ?_) | ((with_reducible refine balloc ?_ _ ?_); · (first | (simp; done) | (simp; omega) | omega)) | ((with_reducible refine bset ?_ _ ?_); · (first | (simp; done) | (simp; omega) | omega)) | (with_reducible refine bdrewN _ ?_) | ((with_reducible refine bcall ?_ (by assumption) ?_); · (first | (simp; done) | (simp; omega) | omega)))))); have kwb4 : wb.cell? ⟨pb, 0, none⟩ = some (.int .i64 (p : Int)) := (HK4.out _ (by (repeat (first | (with_reducible exact Below.refl _ _) | (with_reducible assumption) | (with_reducible refine Below.drew ?_) | ((with_reducible refine balloc ?_ _ ?_); · (first | (simp; done) | (simp; omega) | omega)) | ((with_reducible refine bset ?_ _ ?_); · (first | (simp; done) | (simp; omega) | omega)) | (with_reducible refine bdrewN _ ?_) | ((with_reducible refine bcall ?_ (by assumption) ?_); · (first | (simp; done) | (simp; omega) | omega)))))); have kwb5 : wb.cell? ⟨pb, 1, none⟩ = some (.int .i64 (q : Int)) := (HK5.out _ (by (repeat (first | (with_reducible exact Below.refl _ _) | (with_reducible assumption) | (with_reducible refine Below.drew ?_) | ((with_reducible refine balloc ?_ _ ?_); · (first | (simp; done) | (simp; omega) | omega)) | ((with_reducible refine bset ?_ _ ?_); · (first | (simp; done) | (simp; omega) | omega)) | (with_reducible refine bdrewN _ ?_) | ((with_reducible refine bcall ?_ (by assumption) ?_); · (first | (simp; done) | (simp; omega) | omega))))))
                          refine hK.out _ _ ?_ (fun hHeld => ?_)
                          · ((try dsimp only); (repeat' apply And.intro); all_goals ((repeat (first | (with_reducible refine cell_drew ?_) | (with_reducible refine cell_drewN _ ?_) | ((with_reducible refine cell_alloc ?_ ?_); · first | omega | (simp; done) | (simp; omega) | assumption) | ((with_reducible refine cell_set ?_ ?_); · first | (intro e; injection e; omega) | (intro e; simp at e; done) | (intro e; simp at e; omega)))); first | assumption | (simp; done)))
                          clear hK K
                          (try simp only [Act.put, List.setIfInBounds_toArray, List.set_cons_zero, List.set_cons_succ])
                          refine reg_on (i := 26) (d := 81) (v := ?rv24) rfl rfl (by kernel_rfl) (by kernel_rfl) (by kernel_rfl) (fun _ _ _ h => h) (by rfl) ?ry24 (by assumption) ?rr24
                          case ry24 => (intro wz hSw; (try dsimp only at hSw); go_simp; try with_reducible rfl)
                          (try simp only [Act.put, List.setIfInBounds_toArray, List.set_cons_zero, List.set_cons_succ])
                          have hst : lessI v (z + (pc : Int)) = lessI v (z + (pc : Int)) := rfl
                          refine wpAnyH_ready (rs := [27]) (by kernel_rfl) (by simp) ?_
                          refine AllReadyH.cons rfl (fun K hK => ?_) AllReadyH.nil
                          go_simp
                          go_at_call 42; refine (brLess_any _ _ _).mono ?_; rintro e wc ⟨rfl, rfl⟩
                          refine hK.out _ _ ?_ (fun hHeld => ?_)
                          · ((try dsimp only); (repeat' apply And.intro); all_goals ((repeat (first | (with_reducible refine cell_drew ?_) | (with_reducible refine cell_drewN _ ?_) | ((with_reducible refine cell_alloc ?_ ?_); · first | omega | (simp; done) | (simp; omega) | assumption) | ((with_reducible refine cell_set ?_ ?_); · first | (intro e; injection e; omega) | (intro e; simp at e; done) | (intro e; simp at e; omega)))); first | assumption | (simp; done)))
                          clear hK K
                          (try simp only [Act.put, List.setIfInBounds_toArray, List.set_cons_zero, List.set_cons_succ])
                          refine reg_on (i := 28) (d := 83) (v := ?rv26) rfl rfl (by kernel_rfl) (by kernel_rfl) (by kernel_rfl) (fun _ _ _ h => h) (by rfl) ?ry26 (by assumption) ?rr26
                          case ry26 => (intro wz hSw; (try dsimp only at hSw); go_simp; try with_reducible rfl)
                          (try simp only [Act.put, List.setIfInBounds_toArray, List.set_cons_zero, List.set_cons_succ])
                          refine wpAnyH_ready (rs := [29]) (by kernel_rfl) (by simp) ?_
                          refine AllReadyH.cons rfl (fun K hK => ?_) AllReadyH.nil
                          go_simp
                          refine hK.out _ _ ?_ (fun hHeld => ?_)
                          · ((try dsimp only); (repeat' apply And.intro); all_goals ((repeat (first | (with_reducible refine cell_drew ?_) | (with_reducible refine cell_drewN _ ?_) | ((with_reducible refine cell_alloc ?_ ?_); · first | omega | (simp; done) | (simp; omega) | assumption) | ((with_reducible refine cell_set ?_ ?_); · first | (intro e; injection e; omega) | (intro e; simp at e; done) | (intro e; simp at e; omega)))); first | assumption | (simp; done)))
                          clear hK K
                          (try simp only [Act.put, List.setIfInBounds_toArray, List.set_cons_zero, List.set_cons_succ])
                          refine wpAnyH_done (by kernel_rfl) ?_ _
                          go_wp2
                          go_roundw
                          case rel => exact ⟨t + 1, lessI v (z + (pc : Int)), by omega, by omega, by go_num, (HLES.out _ (by omega) (by omega)).1, (HLES.out _ (by omega) (by omega)).2, HNEXT.out _ _ BWB, HMIN.out z hz.out z0⟩
                          case measure => simp [intOf]; omega
                        ·
                          go_simp
                          go_at_call 29; refine (HSU.out _ (by (repeat (first | (with_reducible exact Below.refl _ _) | (with_reducible assumption) | (with_reducible refine Below.drew ?_) | ((with_reducible refine balloc ?_ _ ?_); · (first | (simp; done) | (simp; omega) | omega)) | ((with_reducible refine bset ?_ _ ?_); · (first | (simp; done) | (simp; omega) | omega)) | (with_reducible refine bdrewN _ ?_) | ((with_reducible refine bcall ?_ (by assumption) ?_); · (first | (simp; done) | (simp; omega) | omega)))))).mono ?_; rintro e wa ⟨z, rfl, hz, z0, z1, hba⟩; have sa := hba.size; (try simp at sa); have kwa0 : wa.cell? ⟨w.heap.size + 1, t, none⟩ = some (.slice (some ⟨ga, 0, none⟩) (Y + 1) (Y + 1)) := (HK0.out _ (by (repeat (first | (with_reducible exact Below.refl _ _) | (with_reducible assumption) | (with_reducible refine Below.drew ?_) | ((with_reducible refine balloc ?_ _ ?_); · (first | (simp; done) | (simp; omega) | omega)) | ((with_reducible refine bset ?_ _ ?_); · (first | (simp; done) | (simp; omega) | omega)) | (with_reducible refine bdrewN _ ?_) | ((with_reducible refine bcall ?_ (by assumption) ?_); · (first | (simp; done) | (simp; omega) | omega)))))); have kwa1 : wa.cell? ⟨ga, q, none⟩ = some (.slice (some ⟨ra, 0, none⟩) (la + 1) (la + 1)) := (HK1.out _ (by (repeat (first | (with_reducible exact Below.refl _ _) | (with_reducible assumption) | (with_reducible refine Below.drew ?_) | ((with_reducible refine balloc ?_ _ ?_); · (first | (simp; done) | (simp; omega) | omega)) | ((with_reducible refine bset ?_ _ ?_); · (first | (simp; done) | (simp; omega) | omega)) | (with_reducible refine bdrewN _ ?_) | ((with_reducible refine bcall ?_ (by assumption) ?_); · (first | (simp; done) | (simp; omega) | omega)))))); have kwa2 : wa.cell? ⟨w.heap.size + 1, u, none⟩ = some (.slice (some ⟨gb, 0, none⟩) (Y + 1) (Y + 1)) := (HK2.out _ (by (repeat (first | (with_reducible exact Below.refl _ _) | (with_reducible assumption) | (with_reducible refine Below.drew ?_) | ((with_reducible refine balloc ?_ _ ?_); · (first | (simp; done) | (simp; omega) | omega)) | ((with_reducible refine bset ?_ _ ?_); · (first | (simp; done) | (simp; omega) | omega)) | (with_reducible refine bdrewN _ ?_) | ((with_reducible refine bcall ?_ (by assumption) ?_); · (first | (simp; done) | (simp; omega) | omega)))))); have kwa3 : wa.cell? ⟨gb, q, none⟩ = some (.slice (some ⟨rb, 0, none⟩) (lb + 1) (lb + 1)) := (HK3.out _ (by (repeat (first | (with_reducible exact Below.refl _ _) | (with_reducible assumption) | (with_reducible refine Below.drew ?_) | ((with_reducible refine balloc ?_ _ ?_); · (first | (simp; done) | (simp; omega) | omega)) | ((with_reducible refine bset ?_ _ ?_); · (first | (simp; done) | (simp; omega) | omega)) | (with_reducible refine bdrewN _ ?_) | ((with_reducible refine bcall ?_ (by assumption) ?_); · (first | (simp; done) | (simp; omega) | omega)))))); have kwa4 : wa.cell? ⟨pb, 0, none⟩ = some (.int .i64 (p : Int)) := (HK4.out _ (by (repeat (first | (with_reducible exact Below.refl _ _) | (with_reducible assumption) | (with_reducible refine Below.drew ?_) | ((with_reducible refine balloc ?_ _ ?_); · (first | (simp; done) | (simp; omega) | omega)) | ((with_reducible refine bset ?_ _ ?_); · (first | (simp; done) | (simp; omega) | omega)) | (with_reducible refine bdrewN _ ?_) | ((with_reducible refine bcall ?_ (by assumption) ?_); · (first | (simp; done) | (simp; omega) | omega)))))); have kwa5 : wa.cell? ⟨pb, 1, none⟩ = some (.int .i64 (q : Int)) := (HK5.out _ (by (repeat (first | (with_reducible exact Below.refl _ _) | (with_reducible assumption) | (with_reducible refine Below.drew ?_) | ((with_reducible refine balloc ?_ _ ?_); · (first | (simp; done) | (simp; omega) | omega)) | ((with_reducible refine bset ?_ _ ?_); · (first | (simp; done) | (simp; omega) | omega)) | (with_reducible refine bdrewN _ ?_) | ((with_reducible refine bcall ?_ (by assumption) ?_); · (first | (simp; done) | (simp; omega) | omega)))))); have BWA : Below wo.heap.size wo wa := (by (repeat (first | (with_reducible exact Below.refl _ _) | (with_reducible assumption) | (with_reducible refine Below.drew ?_) | ((with_reducible refine balloc ?_ _ ?_); · (first | (simp; done) | (simp; omega) | omega)) | ((with_reducible refine bset ?_ _ ?_); · (first | (simp; done) | (simp; omega) | omega)) | (with_reducible refine bdrewN _ ?_) | ((with_reducible refine bcall ?_ (by assumption) ?_); · (first | (simp; done) | (simp; omega) | omega))))); have cva := (HCELL.out wa BWA).1
                          refine hK.out _ _ ?_ (fun hHeld => ?_)
                          · ((try dsimp only); (repeat' apply And.intro); all_goals ((repeat (first | (with_reducible refine cell_drew ?_) | (with_reducible refine cell_drewN _ ?_) | ((with_reducible refine cell_alloc ?_ ?_); · first | omega | (simp; done) | (simp; omega) | assumption) | ((with_reducible refine cell_set ?_ ?_); · first | (intro e; injection e; omega) | (intro e; simp at e; done) | (intro e; simp at e; omega)))); first | assumption | (simp; done)))
                          clear hK K
                          (try simp only [Act.put, List.setIfInBounds_toArray, List.set_cons_zero, List.set_cons_succ])
                          refine wpAnyH_ready (rs := [5, 25]) (by kernel_rfl) (by simp) ?_
                          refine AllReadyH.cons rfl (fun K hK => ?_) (AllReadyH.cons rfl (fun K hK => ?_) (AllReadyH.nil))
                          ·
                            go_simp
                            refine hK.out _ _ ?_ (fun hHeld => ?_)
                            · ((try dsimp only); (repeat' apply And.intro); all_goals ((repeat (first | (with_reducible refine cell_drew ?_) | (with_reducible refine cell_drewN _ ?_) | ((with_reducible refine cell_alloc ?_ ?_); · first | omega | (simp; done) | (simp; omega) | assumption) | ((with_reducible refine cell_set ?_ ?_); · first | (intro e; injection e; omega) | (intro e; simp at e; done) | (intro e; simp at e; omega)))); first | assumption | (simp; done)))
                            clear hK K
                            (try simp only [Act.put, List.setIfInBounds_toArray, List.set_cons_zero, List.set_cons_succ])
                            refine wpAnyH_ready (rs := [25]) (by kernel_rfl) (by simp) ?_
                            refine AllReadyH.cons rfl (fun K hK => ?_) (AllReadyH.nil)
                            go_simp
                            go_at_call 30; refine (HPR.out _).mono ?_; rintro e wb ⟨rfl, hbb⟩; have sb := hbb.size; (try simp at sb); have BWB : Below wo.heap.size wo wb := (by (repeat (first | (with_reducible exact Below.refl _ _) | (with_reducible assumption) | (with_reducible refine Below.drew ?_) | ((with_reducible refine balloc ?_ _ ?_); · (first | (simp; done) | (simp; omega) | omega)) | ((with_reducible refine bset ?_ _ ?_); · (first | (simp; done) | (simp; omega) | omega)) | (with_reducible refine bdrewN _ ?_) | ((with_reducible refine bcall ?_ (by assumption) ?_); · (first | (simp; done) | (simp; omega) | omega))))); have cvb := (HCELL.out wb BWB).1; have fvb := (HCELL.out wb BWB).2; have kwb0 : wb.cell? ⟨w.heap.size + 1, t, none⟩ = some (.slice (some ⟨ga, 0, none⟩) (Y + 1) (Y + 1)) := (HK0.out _ (by (repeat (first | (with_reducible exact Below.refl _ _) | (with_reducible assumption) | (with_reducible refine Below.drew ?_) | ((with_reducible refine balloc ?_ _ ?_); · (first | (simp; done) | (simp; omega) | omega)) | ((with_reducible refine bset ?_ _ ?_); · (first | (simp; done) | (simp; omega) | omega)) | (with_reducible refine bdrewN _ ?_) | ((with_reducible refine bcall ?_ (by assumption) ?_); · (first | (simp; done) | (simp; omega) | omega)))))); have kwb1 : wb.cell? ⟨ga, q, none⟩ = some (.slice (some ⟨ra, 0, none⟩) (la + 1) (la + 1)) := (HK1.out _ (by (repeat (first | (with_reducible exact Below.refl _ _) | (with_reducible assumption) | (with_reducible refine Below.drew ?_) | ((with_reducible refine balloc ?_ _ ?_); · (first | (simp; done) | (simp; omega) | omega)) | ((with_reducible refine bset ?_ _ ?_); · (first | (simp; done) | (simp; omega) | omega)) | (with_reducible refine bdrewN _ ?_) | ((with_reducible refine bcall ?_ (by assumption) ?_); · (first | (simp; done) | (simp; omega) | omega)))))); have kwb2 : wb.cell? ⟨w.heap.size + 1, u, none⟩ = some (.slice (some ⟨gb, 0, none⟩) (Y + 1) (Y + 1)) := (HK2.out _ (by (repeat (first | (with_reducible exact Below.refl _ _) | (with_reducible assumption) | (with_reducible refine Below.drew ?_) | ((with_reducible refine balloc ?_ _ ?_); · (first | (simp; done) | (simp; omega) | omega)) | ((with_reducible refine bset ?_ _ ?_); · (first | (simp; done) | (simp; omega) | omega)) | (with_reducible refine bdrewN _ ?_) | ((with_reducible refine bcall ?_ (by assumption) ?_); · (first | (simp; done) | (simp; omega) | omega)))))); have kwb3 : wb.cell? ⟨gb, q, none⟩ = some (.slice (some ⟨rb, 0, none⟩) (lb + 1) (lb + 1)) := (HK3.out _ (by (repeat (first | (with_reducible exact Below.refl _ _) | (with_reducible assumption) | (with_reducible refine Below.drew ?_) | ((with_reducible refine balloc ?_ _ ?_); · (first | (simp; done) | (simp; omega) | omega)) | ((with_reducible refine bset ?_ _ ?_); · (first | (simp; done) | (simp; omega) | omega)) | (with_reducible refine bdrewN _ ?_) | ((with_reducible refine bcall ?_ (by assumption) ?_); · (first | (simp; done) | (simp; omega) | omega)))))); have kwb4 : wb.cell? ⟨pb, 0, none⟩ = some (.int .i64 (p : Int)) := (HK4.out _ (by (repeat (first | (with_reducible exact Below.refl _ _) | (with_reducible assumption) | (with_reducible refine Below.drew ?_) | ((with_reducible refine balloc ?_ _ ?_); · (first | (simp; done) | (simp; omega) | omega)) | ((with_reducible refine bset ?_ _ ?_); · (first | (simp; done) | (simp; omega) | omega)) | (with_reducible refine bdrewN _ ?_) | ((with_reducible refine bcall ?_ (by assumption) ?_); · (first | (simp; done) | (simp; omega) | omega)))))); have kwb5 : wb.cell? ⟨pb, 1, none⟩ = some (.int .i64 (q : Int)) := (HK5.out _ (by (repeat (first | (with_reducible exact Below.refl _ _) | (with_reducible assumption) | (with_reducible refine Below.drew ?_) | ((with_reducible refine balloc ?_ _ ?_); · (first | (simp; done) | (simp; omega) | omega)) | ((with_reducible refine bset ?_ _ ?_); · (first | (simp; done) | (simp; omega) | omega)) | (with_reducible refine bdrewN _ ?_) | ((with_reducible refine bcall ?_ (by assumption) ?_); · (first | (simp; done) | (simp; omega) | omega))))))
                            refine hK.out _ _ ?_ (fun hHeld => ?_)
                            · ((try dsimp only); (repeat' apply And.intro); all_goals ((repeat (first | (with_reducible refine cell_drew ?_) | (with_reducible refine cell_drewN _ ?_) | ((with_reducible refine cell_alloc ?_ ?_); · first | omega | (simp; done) | (simp; omega) | assumption) | ((with_reducible refine cell_set ?_ ?_); · first | (intro e; injection e; omega) | (intro e; simp at e; done) | (intro e; simp at e; omega)))); first | assumption | (simp; done)))
                            clear hK K
                            (try simp only [Act.put, List.setIfInBounds_toArray, List.set_cons_zero, List.set_cons_succ])
                            refine reg_on (i := 26) (d := 81) (v := ?rv28) rfl rfl (by kernel_rfl) (by kernel_rfl) (by kernel_rfl) (fun _ _ _ h => h) (by rfl) ?ry28 (by assumption) ?rr28
                            case ry28 => (intro wz hSw; (try dsimp only at hSw); go_simp; try with_reducible rfl)
                            (try simp only [Act.put, List.setIfInBounds_toArray, List.set_cons_zero, List.set_cons_succ])
                            have hst : lessI v (z + (pc : Int)) = lessI v (z + (pc : Int)) := rfl
                            refine wpAnyH_ready (rs := [27]) (by kernel_rfl) (by simp) ?_
                            refine AllReadyH.cons rfl (fun K hK => ?_) AllReadyH.nil
                            go_simp
                            go_at_call 42; refine (brLess_any _ _ _).mono ?_; rintro e wc ⟨rfl, rfl⟩
                            refine hK.out _ _ ?_ (fun hHeld => ?_)
                            · ((try dsimp only); (repeat' apply And.intro); all_goals ((repeat (first | (with_reducible refine cell_drew ?_) | (with_reducible refine cell_drewN _ ?_) | ((with_reducible refine cell_alloc ?_ ?_); · first | omega | (simp; done) | (simp; omega) | assumption) | ((with_reducible refine cell_set ?_ ?_); · first | (intro e; injection e; omega) | (intro e; simp at e; done) | (intro e; simp at e; omega)))); first | assumption | (simp; done)))
                            clear hK K
                            (try simp only [Act.put, List.setIfInBounds_toArray, List.set_cons_zero, List.set_cons_succ])
                            refine reg_on (i := 28) (d := 83) (v := ?rv30) rfl rfl (by kernel_rfl) (by kernel_rfl) (by kernel_rfl) (fun _ _ _ h => h) (by rfl) ?ry30 (by assumption) ?rr30
                            case ry30 => (intro wz hSw; (try dsimp only at hSw); go_simp; try with_reducible rfl)
                            (try simp only [Act.put, List.setIfInBounds_toArray, List.set_cons_zero, List.set_cons_succ])
                            refine wpAnyH_ready (rs := [29]) (by kernel_rfl) (by simp) ?_
                            refine AllReadyH.cons rfl (fun K hK => ?_) AllReadyH.nil
                            go_simp
                            refine hK.out _ _ ?_ (fun hHeld => ?_)
                            · ((try dsimp only); (repeat' apply And.intro); all_goals ((repeat (first | (with_reducible refine cell_drew ?_) | (with_reducible refine cell_drewN _ ?_) | ((with_reducible refine cell_alloc ?_ ?_); · first | omega | (simp; done) | (simp; omega) | assumption) | ((with_reducible refine cell_set ?_ ?_); · first | (intro e; injection e; omega) | (intro e; simp at e; done) | (intro e; simp at e; omega)))); first | assumption | (simp; done)))
                            clear hK K
                            (try simp only [Act.put, List.setIfInBounds_toArray, List.set_cons_zero, List.set_cons_succ])
                            refine wpAnyH_done (by kernel_rfl) ?_ _
                            go_wp2
                            go_roundw
                            case rel => exact ⟨t + 1, lessI v (z + (pc : Int)), by omega, by omega, by go_num, (HLES.out _ (by omega) (by omega)).1, (HLES.out _ (by omega) (by omega)).2, HNEXT.out _ _ BWB, HMIN.out z hz.out z0⟩
                            case measure => simp [intOf]; omega
                          ·
                            go_simp
                            go_at_call 30; refine (HPR.out _).mono ?_; rintro e wb ⟨rfl, hbb⟩; have sb := hbb.size; (try simp at sb); have BWB : Below wo.heap.size wo wb := (by (repeat (first | (with_reducible exact Below.refl _ _) | (with_reducible assumption) | (with_reducible refine Below.drew ?_) | ((with_reducible refine balloc ?_ _ ?_); · (first | (simp; done) | (simp; omega) | omega)) | ((with_reducible refine bset ?_ _ ?_); · (first | (simp; done) | (simp; omega) | omega)) | (with_reducible refine bdrewN _ ?_) | ((with_reducible refine bcall ?_ (by assumption) ?_); · (first | (simp; done) | (simp; omega) | omega))))); have cvb := (HCELL.out wb BWB).1; have fvb := (HCELL.out wb BWB).2; have kwb0 : wb.cell? ⟨w.heap.size + 1, t, none⟩ = some (.slice (some ⟨ga, 0, none⟩) (Y + 1) (Y + 1)) := (HK0.out _ (by (repeat (first | (with_reducible exact Below.refl _ _) | (with_reducible assumption) | (with_reducible refine Below.drew ?_) | ((with_reducible refine balloc ?_ _ ?_); · (first | (simp; done) | (simp; omega) | omega)) | ((with_reducible refine bset ?_ _ ?_); · (first | (simp; done) | (simp; omega) | omega)) | (with_reducible refine bdrewN _ ?_) | ((with_reducible refine bcall ?_ (by assumption) ?_); · (first | (simp; done) | (simp; omega) | omega)))))); have kwb1 : wb.cell? ⟨ga, q, none⟩ = some (.slice (some ⟨ra, 0, none⟩) (la + 1) (la + 1)) := (HK1.out _ (by (repeat (first | (with_reducible exact Below.refl _ _) | (with_reducible assumption) | (with_reducible refine Below.drew ?_) | ((with_reducible refine balloc ?_ _ ?_); · (first | (simp; done) | (simp; omega) | omega)) | ((with_reducible refine bset ?_ _ ?_); · (first | (simp; done) | (simp; omega) | omega)) | (with_reducible refine bdrewN _ ?_) | ((with_reducible refine bcall ?_ (by assumption) ?_); · (first | (simp; done) | (simp; omega) | omega)))))); have kwb2 : wb.cell? ⟨w.heap.size + 1, u, none⟩ = some (.slice (some ⟨gb, 0, none⟩) (Y + 1) (Y + 1)) := (HK2.out _ (by (repeat (first | (with_reducible exact Below.refl _ _) | (with_reducible assumption) | (with_reducible refine Below.drew ?_) | ((with_reducible refine balloc ?_ _ ?_); · (first | (simp; done) | (simp; omega) | omega)) | ((with_reducible refine bset ?_ _ ?_); · (first | (simp; done) | (simp; omega) | omega)) | (with_reducible refine bdrewN _ ?_) | ((with_reducible refine bcall ?_ (by assumption) ?_); · (first | (simp; done) | (simp; omega) | omega)))))); have kwb3 : wb.cell? ⟨gb, q, none⟩ = some (.slice (some ⟨rb, 0, none⟩) (lb + 1) (lb + 1)) := (HK3.out _ (by (repeat (first | (with_reducible exact Below.refl _ _) | (with_reducible assumption) | (with_reducible refine Below.drew ?_) | ((with_reducible refine balloc ?_ _ ?_); · (first | (simp; done) | (simp; omega) | omega)) | ((with_reducible refine bset ?_ _ ?_); · (first | (simp; done) | (simp; omega) | omega)) | (with_reducible refine bdrewN _ ?_) | ((with_reducible refine bcall ?_ (by assumption) ?_); · (first | (simp; done) | (simp; omega) | omega)))))); have kwb4 : wb.cell? ⟨pb, 0, none⟩ = some (.int .i64 (p : Int)) := (HK4.out _ (by (repeat (first | (with_reducible exact Below.refl _ _) | (with_reducible assumption) | (with_reducible refine Below.drew ?_) | ((with_reducible refine balloc ?_ _ ?_); · (first | (simp; done) | (simp; omega) | omega)) | ((with_reducible refine bset ?_ _ ?_); · (first | (simp; done) | (simp; omega) | omega)) | (with_reducible refine bdrewN _ ?_) | ((with_reducible refine bcall ?_ (by assumption) ?_); · (first | (simp; done) | (simp; omega) | omega)))))); have kwb5 : wb.cell? ⟨pb, 1, none⟩ = some (.int .i64 (q : Int)) := (HK5.out _ (by (repeat (first | (with_reducible exact Below.refl _ _) | (with_reducible assumption) | (with_reducible refine Below.drew ?_) | ((with_reducible refine balloc ?_ _ ?_); · (first | (simp; done) | (simp; omega) | omega)) | ((with_reducible refine bset ?_ _ ?_); · (first | (simp; done) | (simp; omega) | omega)) | (with_reducible refine bdrewN _ ?_) | ((with_reducible refine bcall ?_ (by assumption) ?_); · (first | (simp; done) | (simp; omega) | omega))))))
                            refine hK.out _ _ ?_ (fun hHeld => ?_)
                            · ((try dsimp only); (repeat' apply And.intro); all_goals ((repeat (first | (with_reducible refine cell_drew ?_) | (with_reducible refine cell_drewN _ ?_) | ((with_reducible refine cell_alloc ?_ ?_); · first | omega | (simp; done) | (simp; omega) | assumption) | ((with_reducible refine cell_set ?_ ?_); · first | (intro e; injection e; omega) | (intro e; simp at e; done) | (intro e; simp at e; omega)))); first | assumption | (simp; done)))
                            clear hK K
                            (try simp only [Act.put, List.setIfInBounds_toArray, List.set_cons_zero, List.set_cons_succ])
                            refine reg_on (i := 26) (d := 81) (v := ?rv32) rfl rfl (by kernel_rfl) (by kernel_rfl) (by kernel_rfl) (fun _ _ _ h => h) (by rfl) ?ry32 (by assumption) ?rr32
                            case ry32 => (intro wz hSw; (try dsimp only at hSw); go_simp; try with_reducible rfl)
                            (try simp only [Act.put, List.setIfInBounds_toArray, List.set_cons_zero, List.set_cons_succ])
                            refine wpAnyH_ready (rs := [5]) (by kernel_rfl) (by simp) ?_
                            refine AllReadyH.cons rfl (fun K hK => ?_) (AllReadyH.nil)
                            go_simp
                            refine hK.out _ _ ?_ (fun hHeld => ?_)
                            · ((try dsimp only); (repeat' apply And.intro); all_goals ((repeat (first | (with_reducible refine cell_drew ?_) | (with_reducible refine cell_drewN _ ?_) | ((with_reducible refine cell_alloc ?_ ?_); · first | omega | (simp; done) | (simp; omega) | assumption) | ((with_reducible refine cell_set ?_ ?_); · first | (intro e; injection e; omega) | (intro e; simp at e; done) | (intro e; simp at e; omega)))); first | assumption | (simp; done)))
                            clear hK K
                            (try simp only [Act.put, List.setIfInBounds_toArray, List.set_cons_zero, List.set_cons_succ])
                            have hst : lessI v (z + (pc : Int)) = lessI v (z + (pc : Int)) := rfl
                            refine wpAnyH_ready (rs := [27]) (by kernel_rfl) (by simp) ?_
                            refine AllReadyH.cons rfl (fun K hK => ?_) AllReadyH.nil
                            go_simp
                            go_at_call 42; refine (brLess_any _ _ _).mono ?_; rintro e wc ⟨rfl, rfl⟩
                            refine hK.out _ _ ?_ (fun hHeld => ?_)
                            · ((try dsimp only); (repeat' apply And.intro); all_goals ((repeat (first | (with_reducible refine cell_drew ?_) | (with_reducible refine cell_drewN _ ?_) | ((with_reducible refine cell_alloc ?_ ?_); · first | omega | (simp; done) | (simp; omega) | assumption) | ((with_reducible refine cell_set ?_ ?_); · first | (intro e; injection e; omega) | (intro e; simp at e; done) | (intro e; simp at e; omega)))); first | assumption | (simp; done)))
                            clear hK K
                            (try simp only [Act.put, List.setIfInBounds_toArray, List.set_cons_zero, List.set_cons_succ])
                            refine reg_on (i := 28) (d := 83) (v := ?rv34) rfl rfl (by kernel_rfl) (by kernel_rfl) (by kernel_rfl) (fun _ _ _ h => h) (by rfl) ?ry34 (by assumption) ?rr34
                            case ry34 => (intro wz hSw; (try dsimp only at hSw); go_simp; try with_reducible rfl)
                            (try simp only [Act.put, List.setIfInBounds_toArray, List.set_cons_zero, List.set_cons_succ])
                            refine wpAnyH_ready (rs := [29]) (by kernel_rfl) (by simp) ?_
                            refine AllReadyH.cons rfl (fun K hK => ?_) AllReadyH.nil
                            go_simp
                            refine hK.out _ _ ?_ (fun hHeld => ?_)
                            · ((try dsimp only); (repeat' apply And.intro); all_goals ((repeat (first | (with_reducible refine cell_drew ?_) | (with_reducible refine cell_drewN _ ?_) | ((with_reducible refine cell_alloc ?_ ?_); · first | omega | (simp; done) | (simp; omega) | assumption) | ((with_reducible refine cell_set ?_ ?_); · first | (intro e; injection e; omega) | (intro e; simp at e; done) | (intro e; simp at e; omega)))); first | assumption | (simp; done)))
                            clear hK K
                            (try simp only [Act.put, List.setIfInBounds_toArray, List.set_cons_zero, List.set_cons_succ])
                            refine wpAnyH_done (by kernel_rfl) ?_ _
                            go_wp2
                            go_roundw
                            case rel => exact ⟨t + 1, lessI v (z + (pc : Int)), by omega, by omega, by go_num, (HLES.out _ (by omega) (by omega)).1, (HLES.out _ (by omega) (by omega)).2, HNEXT.out _ _ BWB, HMIN.out z hz.out z0⟩
                            case measure => simp [intOf]; omega
                      · have htp2 : t = p := by omega
                        have hnlt : ¬ (t : Int) < (p : Int) := by omega
                        rw [htp2] at hmin
                        have hminp : Hid (IsMin (fun x => (∃ t2, 1 ≤ t2 ∧ t2 < p ∧ CandD M p q s t2 x) ∨ ∃ t2, 1 ≤ t2 ∧ t2 < 1 ∧ CandA M p q s t2 x) v) := hmin.out.congr fun x => ⟨fun h => .inl h, fun h => by rcases h with h | ⟨t2, h1, h2, _⟩; exact h; omega⟩
                        clear hmin
                        go_wp2
                        go_loopw [11] (fun i wr => ∃ (t : Nat) (v : Int), 1 ≤ t ∧ t ≤ q ∧ i = .int .i64 t ∧ -1 ≤ v ∧ v ≤ 300000 ∧ Hid (RowSt w wr X Y p q N g pb r M (updF f s v) tab cols) ∧ Hid (IsMin (fun x => (∃ t2, 1 ≤ t2 ∧ t2 < p ∧ CandD M p q s t2 x) ∨ ∃ t2, 1 ≤ t2 ∧ t2 < t ∧ CandA M p q s t2 x) v)) (fun i _ => q - (intOf i).toNat)
                        case atStart => exact ⟨1, v, by omega, by omega, rfl, hv1, hv2, hRS, hminp⟩
                        case round =>
                          clear hRS hminp hv1 hv2 ht1 htp htp2 hnlt hltt
                          obtain ⟨t, v, ht1, htp, rfl, hv1, hv2, hRS, hmin⟩ := hrel
                          by_cases hltt : t < q
                          · have hltti : (t : Int) < (q : Int) := by omega
                            obtain ⟨u, hu⟩ : ∃ u, Hid (u = q - t) := ⟨_, rfl⟩
                            have hu1 : 1 ≤ u ∧ u < q ∧ t + u = q := by have := hu.out; omega
                            have hR := hRS.out
                            have hgl := hR.gl
                            have hpl := hR.pl
                            have hrl := hR.rl
                            have hrw := hR.lt
                            obtain ⟨ra, ra1, ra2, rac, rar⟩ := hR.cl t ht1 hltt
                            obtain ⟨rb, rb1, rb2, rbc, rbr⟩ := hR.cl u hu1.1 hu1.2.1
                            obtain ⟨la, hla⟩ : ∃ la, Hid (la = p * t) := ⟨_, rfl⟩
                            obtain ⟨lb, hlb⟩ : ∃ lb, Hid (lb = p * u) := ⟨_, rfl⟩
                            have hlab : la + lb = N := by rw [hla.out, hlb.out, hN.out, ← hu1.2.2]; exact (Nat.mul_add p t u).symm
                            rw [← hla.out] at rac rar
                            rw [← hlb.out] at rbc rbr
                            have HVA : Hid (∀ k, k ≤ la → 0 ≤ M p t k ∧ M p t k ≤ 100000) := fun k hk => hR.dn.le (by omega) hY (by omega) (by omega) (by omega) (by omega) (by omega) (by rw [← hla.out]; exact hk)
                            have HVB : Hid (∀ k, k ≤ lb → 0 ≤ M p u k ∧ M p u k ≤ 100000) := fun k hk => hR.dn.le (by omega) hY (by omega) (by omega) (by omega) (by omega) (by omega) (by rw [← hlb.out]; exact hk)
                            have HSU : Hid (∀ wx : World, Below wr.heap.size wr wx → Calls Try.prog 29 #[.slice (some ⟨ra, 0, none⟩) (la + 1) (la + 1), .slice (some ⟨rb, 0, none⟩) (lb + 1) (lb + 1), .int .i64 s] wx fun e w' => ∃ z, e = .returned (.int .i64 z) ∧ Hid (IsMin (SumS (rowL (M p t) la) (rowL (M p u) lb) s) z) ∧ 0 ≤ z ∧ z ≤ 200000 ∧ Below wx.heap.size wx w') := by
                              intro wx hb
                              refine (brSum_any _ _ _ _ _ _ s (rowL (M p t) la) (rowL (M p u) lb) wx (rar.below hb (by omega)).rd (rbr.below hb (by omega)).rd (by omega) (by omega) (by omega) (by omega) (fun k hk => by rw [rowL_at (by omega)]; exact HVA.out k (by omega)) (fun k hk => by rw [rowL_at (by omega)]; exact HVB.out k (by omega))).mono ?_
                              rintro e w' ⟨z, rfl, hz, hb'⟩
                              have hx : SumS (rowL (M p t) la) (rowL (M p u) lb) s (M p t (min s la) + M p u (s - min s la)) := sumS_row.2 ⟨min s la, by omega, by omega, by omega, rfl⟩
                              have h1 := HVA.out (min s la) (by omega)
                              have h2 := HVB.out (s - min s la) (by omega)
                              have h3 := hz.le hx
                              exact ⟨z, rfl, hz, by omega, by omega, hb'⟩
                            obtain ⟨pc, hpc⟩ : ∃ pc, Hid (pc = p * p) := ⟨_, rfl⟩
                            have hpc144 : pc ≤ 144 := by rw [hpc.out]; exact sq_le (by omega)
                            have HPR : Hid (∀ wx : World, Calls Try.prog 30 #[bar2 p q, .bool false] wx fun e w' => e = .returned (.int .i64 (pc : Nat)) ∧ Below wx.heap.size wx w') := by
                              intro wx
                              rw [hpc.out]
                              exact brPrice_any p q false wx (by omega) (by omega)
                            have HCELL : Hid (∀ wx : World, Below wr.heap.size wr wx → wx.cell? ⟨r, s, none⟩ = some (.int .i64 v) ∧ wx.frozen? ⟨r, s, none⟩ = false) := by
                              intro wx hb
                              have h := (hR.below hb).cell (s := s) (by omega)
                              rw [updF_at] at h
                              exact h
                            have HNEXT : Hid (∀ (wx : World) (z : Int), Below wr.heap.size wr wx → RowSt w (wx.setCell ⟨r, s, none⟩ (.int .i64 z)) X Y p q N g pb r M (updF f s z) tab cols) := by
                              intro wx z hb
                              have h := (hR.below hb).set (s := s) (by omega) z
                              rw [updF_upd] at h
                              exact h
                            have HMIN : Hid (∀ z, IsMin (SumS (rowL (M p t) la) (rowL (M p u) lb) s) z → 0 ≤ z → IsMin (fun x => (∃ t2, 1 ≤ t2 ∧ t2 < p ∧ CandD M p q s t2 x) ∨ ∃ t2, 1 ≤ t2 ∧ t2 < t + 1 ∧ CandA M p q s t2 x) (lessI v (z + (pc : Int)))) := by
                              intro z hz z0
                              have h1 := (hmin.out).less (hz.plus z0 (show (0 : Int) ≤ (pc : Int) by omega)) (by omega)
                              refine h1.congr fun x => ?_
                              have hc := candA_sum (M := M) (a := p) (b := q) (s := s) (t := t) (x := x)
                              rw [← hu.out, ← hla.out, ← hlb.out, ← hpc.out] at hc
                              constructor
                              · rintro ((h | ⟨t2, h1, h2, h3⟩) | h)
                                · exact .inl h
                                · exact .inr ⟨t2, h1, by omega, h3⟩
                                · exact .inr ⟨t, ht1, by omega, hc.2 h⟩
                              · rintro (h | ⟨t2, h1, h2, h3⟩)
                                · exact .inl (.inl h)
                                · by_cases e : t2 = t
                                  · subst e; exact .inr (hc.1 h3)
                                  · exact .inl (.inr ⟨t2, h1, by omega, h3⟩)
                            have HLES : Hid (∀ z : Int, 0 ≤ z → z ≤ 300000 → -1 ≤ lessI v z ∧ lessI v z ≤ 300000) := by
                              intro z z0 z1
                              unfold lessI
                              split <;> omega
                            have d4 := hR.p0
                            have d5 := hR.p1
                            have d6 := (hR.cell (s := s) (by omega)).1
                            rw [updF_at] at d6
                            have wsub : IntKind.i64.wrap ((q : Int) - (t : Int)) = (u : Int) := by rw [IntWalk.i64_in _ (by omega)]; omega
                            clear hR hmin rar rbr
                            have x3 : (0 : Int) ≤ (u : Int) := by omega
                            have x2 : (t : Int) < (Y : Int) + 1 := by omega
                            have x4 : (u : Int) < (Y : Int) + 1 := by omega
                            have x6 : (q : Int) < (Y : Int) + 1 := by omega
                            have x7 : q < Y + 1 := by omega
                            have x8 : u < Y + 1 := by omega
                            have x9 : t < Y + 1 := by omega
                            have x10 : s < N + 1 := by omega
                            have x11 : (s : Int) < (N : Int) + 1 := by omega
                            have HK0 : Hid (∀ wx : World, Below wr.heap.size wr wx → wx.cell? ⟨g, t, none⟩ = some (.slice (some ⟨ra, 0, none⟩) (la + 1) (la + 1))) := fun wx hb => (hb.cell (p := ⟨g, t, none⟩) (by show g < wr.heap.size; omega)).trans (by assumption)
                            have HK1 : Hid (∀ wx : World, Below wr.heap.size wr wx → wx.cell? ⟨g, u, none⟩ = some (.slice (some ⟨rb, 0, none⟩) (lb + 1) (lb + 1))) := fun wx hb => (hb.cell (p := ⟨g, u, none⟩) (by show g < wr.heap.size; omega)).trans (by assumption)
                            have HK2 : Hid (∀ wx : World, Below wr.heap.size wr wx → wx.cell? ⟨pb, 0, none⟩ = some (.int .i64 (p : Int))) := fun wx hb => (hb.cell (p := ⟨pb, 0, none⟩) (by show pb < wr.heap.size; omega)).trans (by assumption)
                            have HK3 : Hid (∀ wx : World, Below wr.heap.size wr wx → wx.cell? ⟨pb, 1, none⟩ = some (.int .i64 (q : Int))) := fun wx hb => (hb.cell (p := ⟨pb, 1, none⟩) (by show pb < wr.heap.size; omega)).trans (by assumption)
                            obtain ⟨wo, rfl⟩ : ∃ wo : World, wo = wr := ⟨_, rfl⟩
                            go_wp2
                            refine wp_region_held_drew (S := (fun w' => w'.cell? ⟨g, t, none⟩ = some (.slice (some ⟨ra, 0, none⟩) (la + 1) (la + 1)) ∧ w'.cell? ⟨g, u, none⟩ = some (.slice (some ⟨rb, 0, none⟩) (lb + 1) (lb + 1)) ∧ w'.cell? ⟨pb, 0, none⟩ = some (.int .i64 (p : Int)) ∧ w'.cell? ⟨pb, 1, none⟩ = some (.int .i64 (q : Int)))) (by kernel_rfl) ?_ (fun hHeld => ?_)
                            · ((try dsimp only); (repeat' apply And.intro); all_goals ((repeat (first | (with_reducible refine cell_drew ?_) | (with_reducible refine cell_drewN _ ?_) | ((with_reducible refine cell_alloc ?_ ?_); · first | omega | (simp; done) | (simp; omega) | assumption) | ((with_reducible refine cell_set ?_ ?_); · first | (intro e; injection e; omega) | (intro e; simp at e; done) | (intro e; simp at e; omega)))); first | assumption | (simp; done)))
                            refine reg_on (i := 0) (d := 89) (v := ?rv36) rfl rfl (by kernel_rfl) (by kernel_rfl) (by kernel_rfl) (fun _ _ _ h => h) (by rfl) ?ry36 (by assumption) ?rr36
                            case ry36 => (intro wz hSw; (try dsimp only at hSw); go_simp; try with_reducible rfl)
                            (try simp only [Act.put, List.setIfInBounds_toArray, List.set_cons_zero, List.set_cons_succ])
                            refine reg_on (i := 1) (d := 90) (v := ?rv37) rfl rfl (by kernel_rfl) (by kernel_rfl) (by kernel_rfl) (fun _ _ _ h => h) (by rfl) ?ry37 (by assumption) ?rr37
                            case ry37 => (intro wz hSw; (try dsimp only at hSw); go_simp; try with_reducible rfl)
                            (try simp only [Act.put, List.setIfInBounds_toArray, List.set_cons_zero, List.set_cons_succ])
                            refine reg_on (i := 2) (d := 91) (v := ?rv38) rfl rfl (by kernel_rfl) (by kernel_rfl) (by kernel_rfl) (fun _ _ _ h => h) (by rfl) ?ry38 (by assumption) ?rr38
                            case ry38 => (intro wz hSw; (try dsimp only at hSw); go_simp; try with_reducible rfl)
                            (try simp only [Act.put, List.setIfInBounds_toArray, List.set_cons_zero, List.set_cons_succ])
                            refine reg_on (i := 3) (d := 92) (v := ?rv39) rfl rfl (by kernel_rfl) (by kernel_rfl) (by kernel_rfl) (fun _ _ _ h => h) (by rfl) ?ry39 (by assumption) ?rr39
                            case ry39 => (intro wz hSw; (try dsimp only at hSw); go_simp; try with_reducible rfl)
                            (try simp only [Act.put, List.setIfInBounds_toArray, List.set_cons_zero, List.set_cons_succ])
                            refine reg_on (i := 4) (d := 93) (v := ?rv40) rfl rfl (by kernel_rfl) (by kernel_rfl) (by kernel_rfl) (fun _ _ _ h => h) (by rfl) ?ry40 (by assumption) ?rr40
                            case ry40 => (intro wz hSw; (try dsimp only at hSw); go_simp; try with_reducible rfl)
                            (try simp only [Act.put, List.setIfInBounds_toArray, List.set_cons_zero, List.set_cons_succ])
                            refine reg_on (i := 6) (d := 95) (v := ?rv41) rfl rfl (by kernel_rfl) (by kernel_rfl) (by kernel_rfl) (fun _ _ _ h => h) (by rfl) ?ry41 (by assumption) ?rr41
                            case ry41 => (intro wz hSw; (try dsimp only at hSw); go_simp; try with_reducible rfl)
                            (try simp only [Act.put, List.setIfInBounds_toArray, List.set_cons_zero, List.set_cons_succ])
                            refine reg_on (i := 7) (d := 96) (v := ?rv42) rfl rfl (by kernel_rfl) (by kernel_rfl) (by kernel_rfl) (fun _ _ _ h => h) (by rfl) ?ry42 (by assumption) ?rr42
                            case ry42 => (intro wz hSw; (try dsimp only at hSw); go_simp; try with_reducible rfl)
                            (try simp only [Act.put, List.setIfInBounds_toArray, List.set_cons_zero, List.set_cons_succ])
                            refine reg_on (i := 8) (d := 97) (v := ?rv43) rfl rfl (by kernel_rfl) (by kernel_rfl) (by kernel_rfl) (fun _ _ _ h => h) (by rfl) ?ry43 (by assumption) ?rr43
                            case ry43 => (intro wz hSw; (try dsimp only at hSw); go_simp; try with_reducible rfl)
                            (try simp only [Act.put, List.setIfInBounds_toArray, List.set_cons_zero, List.set_cons_succ])
                            refine reg_on (i := 9) (d := 98) (v := ?rv44) rfl rfl (by kernel_rfl) (by kernel_rfl) (by kernel_rfl) (fun _ _ _ h => h) (by rfl) ?ry44 (by assumption) ?rr44
                            case ry44 => (intro wz hSw; (try dsimp only at hSw); go_simp; try with_reducible rfl)
                            (try simp only [Act.put, List.setIfInBounds_toArray, List.set_cons_zero, List.set_cons_succ])
                            refine reg_on (i := 10) (d := 99) (v := ?rv45) rfl rfl (by kernel_rfl) (by kernel_rfl) (by kernel_rfl) (fun _ _ _ h => h) (by rfl) ?ry45 (by assumption) ?rr45
                            case ry45 => (intro wz hSw; (try dsimp only at hSw); go_simp; try with_reducible rfl)
                            (try simp only [Act.put, List.setIfInBounds_toArray, List.set_cons_zero, List.set_cons_succ])
                            refine reg_on (i := 11) (d := 100) (v := ?rv46) rfl rfl (by kernel_rfl) (by kernel_rfl) (by kernel_rfl) (fun _ _ _ h => h) (by rfl) ?ry46 (by assumption) ?rr46
                            case ry46 => (intro wz hSw; (try dsimp only at hSw); go_simp; try with_reducible rfl)
                            (try simp only [Act.put, List.setIfInBounds_toArray, List.set_cons_zero, List.set_cons_succ])
                            refine reg_on (i := 12) (d := 101) (v := ?rv47) rfl rfl (by kernel_rfl) (by kernel_rfl) (by kernel_rfl) (fun _ _ _ h => h) (by rfl) ?ry47 (by assumption) ?rr47
                            case ry47 => (intro wz hSw; (try dsimp only at hSw); go_simp; try with_reducible rfl)
                            (try simp only [Act.put, List.setIfInBounds_toArray, List.set_cons_zero, List.set_cons_succ])
                            refine reg_on (i := 13) (d := 102) (v := ?rv48) rfl rfl (by kernel_rfl) (by kernel_rfl) (by kernel_rfl) (fun _ _ _ h => h) (by rfl) ?ry48 (by assumption) ?rr48
                            case ry48 => (intro wz hSw; (try dsimp only at hSw); go_simp; try with_reducible rfl)
                            (try simp only [Act.put, List.setIfInBounds_toArray, List.set_cons_zero, List.set_cons_succ])
                            refine reg_on (i := 14) (d := 103) (v := ?rv49) rfl rfl (by kernel_rfl) (by kernel_rfl) (by kernel_rfl) (fun _ _ _ h => h) (by rfl) ?ry49 (by assumption) ?rr49
                            case ry49 => (intro wz hSw; (try dsimp only at hSw); go_simp; try with_reducible rfl)
                            (try simp only [Act.put, List.setIfInBounds_toArray, List.set_cons_zero, List.set_cons_succ])
                            refine reg_on (i := 15) (d := 104) (v := ?rv50) rfl rfl (by kernel_rfl) (by kernel_rfl) (by kernel_rfl) (fun _ _ _ h => h) (by rfl) ?ry50 (by assumption) ?rr50
                            case ry50 => (intro wz hSw; (try dsimp only at hSw); go_simp; try with_reducible rfl)
                            (try simp only [Act.put, List.setIfInBounds_toArray, List.set_cons_zero, List.set_cons_succ])
                            refine reg_on (i := 16) (d := 105) (v := ?rv51) rfl rfl (by kernel_rfl) (by kernel_rfl) (by kernel_rfl) (fun _ _ _ h => h) (by rfl) ?ry51 (by assumption) ?rr51
                            case ry51 => (intro wz hSw; (try dsimp only at hSw); go_simp; try with_reducible rfl)
                            (try simp only [Act.put, List.setIfInBounds_toArray, List.set_cons_zero, List.set_cons_succ])
                            refine reg_on (i := 18) (d := 107) (v := ?rv52) rfl rfl (by kernel_rfl) (by kernel_rfl) (by kernel_rfl) (fun _ _ _ h => h) (by rfl) ?ry52 (by assumption) ?rr52
                            case ry52 => (intro wz hSw; (try dsimp only at hSw); go_simp; try with_reducible rfl)
                            (try simp only [Act.put, List.setIfInBounds_toArray, List.set_cons_zero, List.set_cons_succ])
                            refine wpAnyH_ready (rs := [5, 17]) (by kernel_rfl) (by simp) ?_
                            refine AllReadyH.cons rfl (fun K hK => ?_) (AllReadyH.cons rfl (fun K hK => ?_) (AllReadyH.nil))
                            ·
                              go_simp
                              refine hK.out _ _ ?_ (fun hHeld => ?_)
                              · ((try dsimp only); (repeat' apply And.intro); all_goals ((repeat (first | (with_reducible refine cell_drew ?_) | (with_reducible refine cell_drewN _ ?_) | ((with_reducible refine cell_alloc ?_ ?_); · first | omega | (simp; done) | (simp; omega) | assumption) | ((with_reducible refine cell_set ?_ ?_); · first | (intro e; injection e; omega) | (intro e; simp at e; done) | (intro e; simp at e; omega)))); first | assumption | (simp; done)))
                              clear hK K
                              (try simp only [Act.put, List.setIfInBounds_toArray, List.set_cons_zero, List.set_cons_succ])
                              refine wpAnyH_ready (rs := [17]) (by kernel_rfl) (by simp) ?_
                              refine AllReadyH.cons rfl (fun K hK => ?_) (AllReadyH.nil)
                              go_simp
                              go_at_call 29; refine (HSU.out _ (by (repeat (first | (with_reducible exact Below.refl _ _) | (with_reducible assumption) | (with_reducible refine Below.drew ?_) | ((with_reducible refine balloc ?_ _ ?_); · (first | (simp; done) | (simp; omega) | omega)) | ((with_reducible refine bset ?_ _ ?_); · (first | (simp; done) | (simp; omega) | omega)) | (with_reducible refine bdrewN _ ?_) | ((with_reducible refine bcall ?_ (by assumption) ?_); · (first | (simp; done) | (simp; omega) | omega)))))).mono ?_; rintro e wa ⟨z, rfl, hz, z0, z1, hba⟩; have sa := hba.size; (try simp at sa); have kwa0 : wa.cell? ⟨g, t, none⟩ = some (.slice (some ⟨ra, 0, none⟩) (la + 1) (la + 1)) := (HK0.out _ (by (repeat (first | (with_reducible exact Below.refl _ _) | (with_reducible assumption) | (with_reducible refine Below.drew ?_) | ((with_reducible refine balloc ?_ _ ?_); · (first | (simp; done) | (simp; omega) | omega)) | ((with_reducible refine bset ?_ _ ?_); · (first | (simp; done) | (simp; omega) | omega)) | (with_reducible refine bdrewN _ ?_) | ((with_reducible refine bcall ?_ (by assumption) ?_); · (first | (simp; done) | (simp; omega) | omega)))))); have kwa1 : wa.cell? ⟨g, u, none⟩ = some (.slice (some ⟨rb, 0, none⟩) (lb + 1) (lb + 1)) := (HK1.out _ (by (repeat (first | (with_reducible exact Below.refl _ _) | (with_reducible assumption) | (with_reducible refine Below.drew ?_) | ((with_reducible refine balloc ?_ _ ?_); · (first | (simp; done) | (simp; omega) | omega)) | ((with_reducible refine bset ?_ _ ?_); · (first | (simp; done) | (simp; omega) | omega)) | (with_reducible refine bdrewN _ ?_) | ((with_reducible refine bcall ?_ (by assumption) ?_); · (first | (simp; done) | (simp; omega) | omega)))))); have kwa2 : wa.cell? ⟨pb, 0, none⟩ = some (.int .i64 (p : Int)) := (HK2.out _ (by (repeat (first | (with_reducible exact Below.refl _ _) | (with_reducible assumption) | (with_reducible refine Below.drew ?_) | ((with_reducible refine balloc ?_ _ ?_); · (first | (simp; done) | (simp; omega) | omega)) | ((with_reducible refine bset ?_ _ ?_); · (first | (simp; done) | (simp; omega) | omega)) | (with_reducible refine bdrewN _ ?_) | ((with_reducible refine bcall ?_ (by assumption) ?_); · (first | (simp; done) | (simp; omega) | omega)))))); have kwa3 : wa.cell? ⟨pb, 1, none⟩ = some (.int .i64 (q : Int)) := (HK3.out _ (by (repeat (first | (with_reducible exact Below.refl _ _) | (with_reducible assumption) | (with_reducible refine Below.drew ?_) | ((with_reducible refine balloc ?_ _ ?_); · (first | (simp; done) | (simp; omega) | omega)) | ((with_reducible refine bset ?_ _ ?_); · (first | (simp; done) | (simp; omega) | omega)) | (with_reducible refine bdrewN _ ?_) | ((with_reducible refine bcall ?_ (by assumption) ?_); · (first | (simp; done) | (simp; omega) | omega)))))); have BWA : Below wo.heap.size wo wa := (by (repeat (first | (with_reducible exact Below.refl _ _) | (with_reducible assumption) | (with_reducible refine Below.drew ?_) | ((with_reducible refine balloc ?_ _ ?_); · (first | (simp; done) | (simp; omega) | omega)) | ((with_reducible refine bset ?_ _ ?_); · (first | (simp; done) | (simp; omega) | omega)) | (with_reducible refine bdrewN _ ?_) | ((with_reducible refine bcall ?_ (by assumption) ?_); · (first | (simp; done) | (simp; omega) | omega))))); have cva := (HCELL.out wa BWA).1
                              refine hK.out _ _ ?_ (fun hHeld => ?_)
                              · ((try dsimp only); (repeat' apply And.intro); all_goals ((repeat (first | (with_reducible refine cell_drew ?_) | (with_reducible refine cell_drewN _ ?_) | ((with_reducible refine cell_alloc ?_ ?_); · first | omega | (simp; done) | (simp; omega) | assumption) | ((with_reducible refine cell_set ?_ ?_); · first | (intro e; injection e; omega) | (intro e; simp at e; done) | (intro e; simp at e; omega)))); first | assumption | (simp; done)))
                              clear hK K
                              (try simp only [Act.put, List.setIfInBounds_toArray, List.set_cons_zero, List.set_cons_succ])
                              refine wpAnyH_ready (rs := [19]) (by kernel_rfl) (by simp) ?_
                              refine AllReadyH.cons rfl (fun K hK => ?_) (AllReadyH.nil)
                              go_simp
                              go_at_call 30; refine (HPR.out _).mono ?_; rintro e wb ⟨rfl, hbb⟩; have sb := hbb.size; (try simp at sb); have BWB : Below wo.heap.size wo wb := (by (repeat (first | (with_reducible exact Below.refl _ _) | (with_reducible assumption) | (with_reducible refine Below.drew ?_) | ((with_reducible refine balloc ?_ _ ?_); · (first | (simp; done) | (simp; omega) | omega)) | ((with_reducible refine bset ?_ _ ?_); · (first | (simp; done) | (simp; omega) | omega)) | (with_reducible refine bdrewN _ ?_) | ((with_reducible refine bcall ?_ (by assumption) ?_); · (first | (simp; done) | (simp; omega) | omega))))); have cvb := (HCELL.out wb BWB).1; have fvb := (HCELL.out wb BWB).2; have kwb0 : wb.cell? ⟨g, t, none⟩ = some (.slice (some ⟨ra, 0, none⟩) (la + 1) (la + 1)) := (HK0.out _ (by (repeat (first | (with_reducible exact Below.refl _ _) | (with_reducible assumption) | (with_reducible refine Below.drew ?_) | ((with_reducible refine balloc ?_ _ ?_); · (first | (simp; done) | (simp; omega) | omega)) | ((with_reducible refine bset ?_ _ ?_); · (first | (simp; done) | (simp; omega) | omega)) | (with_reducible refine bdrewN _ ?_) | ((with_reducible refine bcall ?_ (by assumption) ?_); · (first | (simp; done) | (simp; omega) | omega)))))); have kwb1 : wb.cell? ⟨g, u, none⟩ = some (.slice (some ⟨rb, 0, none⟩) (lb + 1) (lb + 1)) := (HK1.out _ (by (repeat (first | (with_reducible exact Below.refl _ _) | (with_reducible assumption) | (with_reducible refine Below.drew ?_) | ((with_reducible refine balloc ?_ _ ?_); · (first | (simp; done) | (simp; omega) | omega)) | ((with_reducible refine bset ?_ _ ?_); · (first | (simp; done) | (simp; omega) | omega)) | (with_reducible refine bdrewN _ ?_) | ((with_reducible refine bcall ?_ (by assumption) ?_); · (first | (simp; done) | (simp; omega) | omega)))))); have kwb2 : wb.cell? ⟨pb, 0, none⟩ = some (.int .i64 (p : Int)) := (HK2.out _ (by (repeat (first | (with_reducible exact Below.refl _ _) | (with_reducible assumption) | (with_reducible refine Below.drew ?_) | ((with_reducible refine balloc ?_ _ ?_); · (first | (simp; done) | (simp; omega) | omega)) | ((with_reducible refine bset ?_ _ ?_); · (first | (simp; done) | (simp; omega) | omega)) | (with_reducible refine bdrewN _ ?_) | ((with_reducible refine bcall ?_ (by assumption) ?_); · (first | (simp; done) | (simp; omega) | omega)))))); have kwb3 : wb.cell? ⟨pb, 1, none⟩ = some (.int .i64 (q : Int)) := (HK3.out _ (by (repeat (first | (with_reducible exact Below.refl _ _) | (with_reducible assumption) | (with_reducible refine Below.drew ?_) | ((with_reducible refine balloc ?_ _ ?_); · (first | (simp; done) | (simp; omega) | omega)) | ((with_reducible refine bset ?_ _ ?_); · (first | (simp; done) | (simp; omega) | omega)) | (with_reducible refine bdrewN _ ?_) | ((with_reducible refine bcall ?_ (by assumption) ?_); · (first | (simp; done) | (simp; omega) | omega))))))
                              refine hK.out _ _ ?_ (fun hHeld => ?_)
                              · ((try dsimp only); (repeat' apply And.intro); all_goals ((repeat (first | (with_reducible refine cell_drew ?_) | (with_reducible refine cell_drewN _ ?_) | ((with_reducible refine cell_alloc ?_ ?_); · first | omega | (simp; done) | (simp; omega) | assumption) | ((with_reducible refine cell_set ?_ ?_); · first | (intro e; injection e; omega) | (intro e; simp at e; done) | (intro e; simp at e; omega)))); first | assumption | (simp; done)))
                              clear hK K
                              (try simp only [Act.put, List.setIfInBounds_toArray, List.set_cons_zero, List.set_cons_succ])
                              refine reg_on (i := 20) (d := 109) (v := ?rv53) rfl rfl (by kernel_rfl) (by kernel_rfl) (by kernel_rfl) (fun _ _ _ h => h) (by rfl) ?ry53 (by assumption) ?rr53
                              case ry53 => (intro wz hSw; (try dsimp only at hSw); go_simp; try with_reducible rfl)
                              (try simp only [Act.put, List.setIfInBounds_toArray, List.set_cons_zero, List.set_cons_succ])
                              have hst : lessI v (z + (pc : Int)) = lessI v (z + (pc : Int)) := rfl
                              refine wpAnyH_ready (rs := [21]) (by kernel_rfl) (by simp) ?_
                              refine AllReadyH.cons rfl (fun K hK => ?_) AllReadyH.nil
                              go_simp
                              go_at_call 42; refine (brLess_any _ _ _).mono ?_; rintro e wc ⟨rfl, rfl⟩
                              refine hK.out _ _ ?_ (fun hHeld => ?_)
                              · ((try dsimp only); (repeat' apply And.intro); all_goals ((repeat (first | (with_reducible refine cell_drew ?_) | (with_reducible refine cell_drewN _ ?_) | ((with_reducible refine cell_alloc ?_ ?_); · first | omega | (simp; done) | (simp; omega) | assumption) | ((with_reducible refine cell_set ?_ ?_); · first | (intro e; injection e; omega) | (intro e; simp at e; done) | (intro e; simp at e; omega)))); first | assumption | (simp; done)))
                              clear hK K
                              (try simp only [Act.put, List.setIfInBounds_toArray, List.set_cons_zero, List.set_cons_succ])
                              refine reg_on (i := 22) (d := 111) (v := ?rv55) rfl rfl (by kernel_rfl) (by kernel_rfl) (by kernel_rfl) (fun _ _ _ h => h) (by rfl) ?ry55 (by assumption) ?rr55
                              case ry55 => (intro wz hSw; (try dsimp only at hSw); go_simp; try with_reducible rfl)
                              (try simp only [Act.put, List.setIfInBounds_toArray, List.set_cons_zero, List.set_cons_succ])
                              refine wpAnyH_ready (rs := [23]) (by kernel_rfl) (by simp) ?_
                              refine AllReadyH.cons rfl (fun K hK => ?_) AllReadyH.nil
                              go_simp
                              refine hK.out _ _ ?_ (fun hHeld => ?_)
                              · ((try dsimp only); (repeat' apply And.intro); all_goals ((repeat (first | (with_reducible refine cell_drew ?_) | (with_reducible refine cell_drewN _ ?_) | ((with_reducible refine cell_alloc ?_ ?_); · first | omega | (simp; done) | (simp; omega) | assumption) | ((with_reducible refine cell_set ?_ ?_); · first | (intro e; injection e; omega) | (intro e; simp at e; done) | (intro e; simp at e; omega)))); first | assumption | (simp; done)))
                              clear hK K
                              (try simp only [Act.put, List.setIfInBounds_toArray, List.set_cons_zero, List.set_cons_succ])
                              refine wpAnyH_done (by kernel_rfl) ?_ _
                              go_wp2
                              go_roundw
                              case rel => exact ⟨t + 1, lessI v (z + (pc : Int)), by omega, by omega, by go_num, (HLES.out _ (by omega) (by omega)).1, (HLES.out _ (by omega) (by omega)).2, HNEXT.out _ _ BWB, HMIN.out z hz.out z0⟩
                              case measure => simp [intOf]; omega
                            ·
                              go_simp
                              go_at_call 29; refine (HSU.out _ (by (repeat (first | (with_reducible exact Below.refl _ _) | (with_reducible assumption) | (with_reducible refine Below.drew ?_) | ((with_reducible refine balloc ?_ _ ?_); · (first | (simp; done) | (simp; omega) | omega)) | ((with_reducible refine bset ?_ _ ?_); · (first | (simp; done) | (simp; omega) | omega)) | (with_reducible refine bdrewN _ ?_) | ((with_reducible refine bcall ?_ (by assumption) ?_); · (first | (simp; done) | (simp; omega) | omega)))))).mono ?_; rintro e wa ⟨z, rfl, hz, z0, z1, hba⟩; have sa := hba.size; (try simp at sa); have kwa0 : wa.cell? ⟨g, t, none⟩ = some (.slice (some ⟨ra, 0, none⟩) (la + 1) (la + 1)) := (HK0.out _ (by (repeat (first | (with_reducible exact Below.refl _ _) | (with_reducible assumption) | (with_reducible refine Below.drew ?_) | ((with_reducible refine balloc ?_ _ ?_); · (first | (simp; done) | (simp; omega) | omega)) | ((with_reducible refine bset ?_ _ ?_); · (first | (simp; done) | (simp; omega) | omega)) | (with_reducible refine bdrewN _ ?_) | ((with_reducible refine bcall ?_ (by assumption) ?_); · (first | (simp; done) | (simp; omega) | omega)))))); have kwa1 : wa.cell? ⟨g, u, none⟩ = some (.slice (some ⟨rb, 0, none⟩) (lb + 1) (lb + 1)) := (HK1.out _ (by (repeat (first | (with_reducible exact Below.refl _ _) | (with_reducible assumption) | (with_reducible refine Below.drew ?_) | ((with_reducible refine balloc ?_ _ ?_); · (first | (simp; done) | (simp; omega) | omega)) | ((with_reducible refine bset ?_ _ ?_); · (first | (simp; done) | (simp; omega) | omega)) | (with_reducible refine bdrewN _ ?_) | ((with_reducible refine bcall ?_ (by assumption) ?_); · (first | (simp; done) | (simp; omega) | omega)))))); have kwa2 : wa.cell? ⟨pb, 0, none⟩ = some (.int .i64 (p : Int)) := (HK2.out _ (by (repeat (first | (with_reducible exact Below.refl _ _) | (with_reducible assumption) | (with_reducible refine Below.drew ?_) | ((with_reducible refine balloc ?_ _ ?_); · (first | (simp; done) | (simp; omega) | omega)) | ((with_reducible refine bset ?_ _ ?_); · (first | (simp; done) | (simp; omega) | omega)) | (with_reducible refine bdrewN _ ?_) | ((with_reducible refine bcall ?_ (by assumption) ?_); · (first | (simp; done) | (simp; omega) | omega)))))); have kwa3 : wa.cell? ⟨pb, 1, none⟩ = some (.int .i64 (q : Int)) := (HK3.out _ (by (repeat (first | (with_reducible exact Below.refl _ _) | (with_reducible assumption) | (with_reducible refine Below.drew ?_) | ((with_reducible refine balloc ?_ _ ?_); · (first | (simp; done) | (simp; omega) | omega)) | ((with_reducible refine bset ?_ _ ?_); · (first | (simp; done) | (simp; omega) | omega)) | (with_reducible refine bdrewN _ ?_) | ((with_reducible refine bcall ?_ (by assumption) ?_); · (first | (simp; done) | (simp; omega) | omega)))))); have BWA : Below wo.heap.size wo wa := (by (repeat (first | (with_reducible exact Below.refl _ _) | (with_reducible assumption) | (with_reducible refine Below.drew ?_) | ((with_reducible refine balloc ?_ _ ?_); · (first | (simp; done) | (simp; omega) | omega)) | ((with_reducible refine bset ?_ _ ?_); · (first | (simp; done) | (simp; omega) | omega)) | (with_reducible refine bdrewN _ ?_) | ((with_reducible refine bcall ?_ (by assumption) ?_); · (first | (simp; done) | (simp; omega) | omega))))); have cva := (HCELL.out wa BWA).1
                              refine hK.out _ _ ?_ (fun hHeld => ?_)
                              · ((try dsimp only); (repeat' apply And.intro); all_goals ((repeat (first | (with_reducible refine cell_drew ?_) | (with_reducible refine cell_drewN _ ?_) | ((with_reducible refine cell_alloc ?_ ?_); · first | omega | (simp; done) | (simp; omega) | assumption) | ((with_reducible refine cell_set ?_ ?_); · first | (intro e; injection e; omega) | (intro e; simp at e; done) | (intro e; simp at e; omega)))); first | assumption | (simp; done)))
                              clear hK K
                              (try simp only [Act.put, List.setIfInBounds_toArray, List.set_cons_zero, List.set_cons_succ])
                              refine wpAnyH_ready (rs := [5, 19]) (by kernel_rfl) (by simp) ?_
                              refine AllReadyH.cons rfl (fun K hK => ?_) (AllReadyH.cons rfl (fun K hK => ?_) (AllReadyH.nil))
                              ·
                                go_simp
                                refine hK.out _ _ ?_ (fun hHeld => ?_)
                                · ((try dsimp only); (repeat' apply And.intro); all_goals ((repeat (first | (with_reducible refine cell_drew ?_) | (with_reducible refine cell_drewN _ ?_) | ((with_reducible refine cell_alloc ?_ ?_); · first | omega | (simp; done) | (simp; omega) | assumption) | ((with_reducible refine cell_set ?_ ?_); · first | (intro e; injection e; omega) | (intro e; simp at e; done) | (intro e; simp at e; omega)))); first | assumption | (simp; done)))
                                clear hK K
                                (try simp only [Act.put, List.setIfInBounds_toArray, List.set_cons_zero, List.set_cons_succ])
                                refine wpAnyH_ready (rs := [19]) (by kernel_rfl) (by simp) ?_
                                refine AllReadyH.cons rfl (fun K hK => ?_) (AllReadyH.nil)
                                go_simp
                                go_at_call 30; refine (HPR.out _).mono ?_; rintro e wb ⟨rfl, hbb⟩; have sb := hbb.size; (try simp at sb); have BWB : Below wo.heap.size wo wb := (by (repeat (first | (with_reducible exact Below.refl _ _) | (with_reducible assumption) | (with_reducible refine Below.drew ?_) | ((with_reducible refine balloc ?_ _ ?_); · (first | (simp; done) | (simp; omega) | omega)) | ((with_reducible refine bset ?_ _ ?_); · (first | (simp; done) | (simp; omega) | omega)) | (with_reducible refine bdrewN _ ?_) | ((with_reducible refine bcall ?_ (by assumption) ?_); · (first | (simp; done) | (simp; omega) | omega))))); have cvb := (HCELL.out wb BWB).1; have fvb := (HCELL.out wb BWB).2; have kwb0 : wb.cell? ⟨g, t, none⟩ = some (.slice (some ⟨ra, 0, none⟩) (la + 1) (la + 1)) := (HK0.out _ (by (repeat (first | (with_reducible exact Below.refl _ _) | (with_reducible assumption) | (with_reducible refine Below.drew ?_) | ((with_reducible refine balloc ?_ _ ?_); · (first | (simp; done) | (simp; omega) | omega)) | ((with_reducible refine bset ?_ _ ?_); · (first | (simp; done) | (simp; omega) | omega)) | (with_reducible refine bdrewN _ ?_) | ((with_reducible refine bcall ?_ (by assumption) ?_); · (first | (simp; done) | (simp; omega) | omega)))))); have kwb1 : wb.cell? ⟨g, u, none⟩ = some (.slice (some ⟨rb, 0, none⟩) (lb + 1) (lb + 1)) := (HK1.out _ (by (repeat (first | (with_reducible exact Below.refl _ _) | (with_reducible assumption) | (with_reducible refine Below.drew ?_) | ((with_reducible refine balloc ?_ _ ?_); · (first | (simp; done) | (simp; omega) | omega)) | ((with_reducible refine bset ?_ _ ?_); · (first | (simp; done) | (simp; omega) | omega)) | (with_reducible refine bdrewN _ ?_) | ((with_reducible refine bcall ?_ (by assumption) ?_); · (first | (simp; done) | (simp; omega) | omega)))))); have kwb2 : wb.cell? ⟨pb, 0, none⟩ = some (.int .i64 (p : Int)) := (HK2.out _ (by (repeat (first | (with_reducible exact Below.refl _ _) | (with_reducible assumption) | (with_reducible refine Below.drew ?_) | ((with_reducible refine balloc ?_ _ ?_); · (first | (simp; done) | (simp; omega) | omega)) | ((with_reducible refine bset ?_ _ ?_); · (first | (simp; done) | (simp; omega) | omega)) | (with_reducible refine bdrewN _ ?_) | ((with_reducible refine bcall ?_ (by assumption) ?_); · (first | (simp; done) | (simp; omega) | omega)))))); have kwb3 : wb.cell? ⟨pb, 1, none⟩ = some (.int .i64 (q : Int)) := (HK3.out _ (by (repeat (first | (with_reducible exact Below.refl _ _) | (with_reducible assumption) | (with_reducible refine Below.drew ?_) | ((with_reducible refine balloc ?_ _ ?_); · (first | (simp; done) | (simp; omega) | omega)) | ((with_reducible refine bset ?_ _ ?_); · (first | (simp; done) | (simp; omega) | omega)) | (with_reducible refine bdrewN _ ?_) | ((with_reducible refine bcall ?_ (by assumption) ?_); · (first | (simp; done) | (simp; omega) | omega))))))
                                refine hK.out _ _ ?_ (fun hHeld => ?_)
                                · ((try dsimp only); (repeat' apply And.intro); all_goals ((repeat (first | (with_reducible refine cell_drew ?_) | (with_reducible refine cell_drewN _ ?_) | ((with_reducible refine cell_alloc ?_ ?_); · first | omega | (simp; done) | (simp; omega) | assumption) | ((with_reducible refine cell_set ?_ ?_); · first | (intro e; injection e; omega) | (intro e; simp at e; done) | (intro e; simp at e; omega)))); first | assumption | (simp; done)))
                                clear hK K
                                (try simp only [Act.put, List.setIfInBounds_toArray, List.set_cons_zero, List.set_cons_succ])
                                refine reg_on (i := 20) (d := 109) (v := ?rv57) rfl rfl (by kernel_rfl) (by kernel_rfl) (by kernel_rfl) (fun _ _ _ h => h) (by rfl) ?ry57 (by assumption) ?rr57
                                case ry57 => (intro wz hSw; (try dsimp only at hSw); go_simp; try with_reducible rfl)
                                (try simp only [Act.put, List.setIfInBounds_toArray, List.set_cons_zero, List.set_cons_succ])
                                have hst : lessI v (z + (pc : Int)) = lessI v (z + (pc : Int)) := rfl
                                refine wpAnyH_ready (rs := [21]) (by kernel_rfl) (by simp) ?_
                                refine AllReadyH.cons rfl (fun K hK => ?_) AllReadyH.nil
                                go_simp
                                go_at_call 42; refine (brLess_any _ _ _).mono ?_; rintro e wc ⟨rfl, rfl⟩
                                refine hK.out _ _ ?_ (fun hHeld => ?_)
                                · ((try dsimp only); (repeat' apply And.intro); all_goals ((repeat (first | (with_reducible refine cell_drew ?_) | (with_reducible refine cell_drewN _ ?_) | ((with_reducible refine cell_alloc ?_ ?_); · first | omega | (simp; done) | (simp; omega) | assumption) | ((with_reducible refine cell_set ?_ ?_); · first | (intro e; injection e; omega) | (intro e; simp at e; done) | (intro e; simp at e; omega)))); first | assumption | (simp; done)))
                                clear hK K
                                (try simp only [Act.put, List.setIfInBounds_toArray, List.set_cons_zero, List.set_cons_succ])
                                refine reg_on (i := 22) (d := 111) (v := ?rv59) rfl rfl (by kernel_rfl) (by kernel_rfl) (by kernel_rfl) (fun _ _ _ h => h) (by rfl) ?ry59 (by assumption) ?rr59
                                case ry59 => (intro wz hSw; (try dsimp only at hSw); go_simp; try with_reducible rfl)
                                (try simp only [Act.put, List.setIfInBounds_toArray, List.set_cons_zero, List.set_cons_succ])
                                refine wpAnyH_ready (rs := [23]) (by kernel_rfl) (by simp) ?_
                                refine AllReadyH.cons rfl (fun K hK => ?_) AllReadyH.nil
                                go_simp
                                refine hK.out _ _ ?_ (fun hHeld => ?_)
                                · ((try dsimp only); (repeat' apply And.intro); all_goals ((repeat (first | (with_reducible refine cell_drew ?_) | (with_reducible refine cell_drewN _ ?_) | ((with_reducible refine cell_alloc ?_ ?_); · first | omega | (simp; done) | (simp; omega) | assumption) | ((with_reducible refine cell_set ?_ ?_); · first | (intro e; injection e; omega) | (intro e; simp at e; done) | (intro e; simp at e; omega)))); first | assumption | (simp; done)))
                                clear hK K
                                (try simp only [Act.put, List.setIfInBounds_toArray, List.set_cons_zero, List.set_cons_succ])
                                refine wpAnyH_done (by kernel_rfl) ?_ _
                                go_wp2
                                go_roundw
                                case rel => exact ⟨t + 1, lessI v (z + (pc : Int)), by omega, by omega, by go_num, (HLES.out _ (by omega) (by omega)).1, (HLES.out _ (by omega) (by omega)).2, HNEXT.out _ _ BWB, HMIN.out z hz.out z0⟩
                                case measure => simp [intOf]; omega
                              ·
                                go_simp
                                go_at_call 30; refine (HPR.out _).mono ?_; rintro e wb ⟨rfl, hbb⟩; have sb := hbb.size; (try simp at sb); have BWB : Below wo.heap.size wo wb := (by (repeat (first | (with_reducible exact Below.refl _ _) | (with_reducible assumption) | (with_reducible refine Below.drew ?_) | ((with_reducible refine balloc ?_ _ ?_); · (first | (simp; done) | (simp; omega) | omega)) | ((with_reducible refine bset ?_ _ ?_); · (first | (simp; done) | (simp; omega) | omega)) | (with_reducible refine bdrewN _ ?_) | ((with_reducible refine bcall ?_ (by assumption) ?_); · (first | (simp; done) | (simp; omega) | omega))))); have cvb := (HCELL.out wb BWB).1; have fvb := (HCELL.out wb BWB).2; have kwb0 : wb.cell? ⟨g, t, none⟩ = some (.slice (some ⟨ra, 0, none⟩) (la + 1) (la + 1)) := (HK0.out _ (by (repeat (first | (with_reducible exact Below.refl _ _) | (with_reducible assumption) | (with_reducible refine Below.drew ?_) | ((with_reducible refine balloc ?_ _ ?_); · (first | (simp; done) | (simp; omega) | omega)) | ((with_reducible refine bset ?_ _ ?_); · (first | (simp; done) | (simp; omega) | omega)) | (with_reducible refine bdrewN _ ?_) | ((with_reducible refine bcall ?_ (by assumption) ?_); · (first | (simp; done) | (simp; omega) | omega)))))); have kwb1 : wb.cell? ⟨g, u, none⟩ = some (.slice (some ⟨rb, 0, none⟩) (lb + 1) (lb + 1)) := (HK1.out _ (by (repeat (first | (with_reducible exact Below.refl _ _) | (with_reducible assumption) | (with_reducible refine Below.drew ?_) | ((with_reducible refine balloc ?_ _ ?_); · (first | (simp; done) | (simp; omega) | omega)) | ((with_reducible refine bset ?_ _ ?_); · (first | (simp; done) | (simp; omega) | omega)) | (with_reducible refine bdrewN _ ?_) | ((with_reducible refine bcall ?_ (by assumption) ?_); · (first | (simp; done) | (simp; omega) | omega)))))); have kwb2 : wb.cell? ⟨pb, 0, none⟩ = some (.int .i64 (p : Int)) := (HK2.out _ (by (repeat (first | (with_reducible exact Below.refl _ _) | (with_reducible assumption) | (with_reducible refine Below.drew ?_) | ((with_reducible refine balloc ?_ _ ?_); · (first | (simp; done) | (simp; omega) | omega)) | ((with_reducible refine bset ?_ _ ?_); · (first | (simp; done) | (simp; omega) | omega)) | (with_reducible refine bdrewN _ ?_) | ((with_reducible refine bcall ?_ (by assumption) ?_); · (first | (simp; done) | (simp; omega) | omega)))))); have kwb3 : wb.cell? ⟨pb, 1, none⟩ = some (.int .i64 (q : Int)) := (HK3.out _ (by (repeat (first | (with_reducible exact Below.refl _ _) | (with_reducible assumption) | (with_reducible refine Below.drew ?_) | ((with_reducible refine balloc ?_ _ ?_); · (first | (simp; done) | (simp; omega) | omega)) | ((with_reducible refine bset ?_ _ ?_); · (first | (simp; done) | (simp; omega) | omega)) | (with_reducible refine bdrewN _ ?_) | ((with_reducible refine bcall ?_ (by assumption) ?_); · (first | (simp; done) | (simp; omega) | omega))))))
                                refine hK.out _ _ ?_ (fun hHeld => ?_)
                                · ((try dsimp only); (repeat' apply And.intro); all_goals ((repeat (first | (with_reducible refine cell_drew ?_) | (with_reducible refine cell_drewN _ ?_) | ((with_reducible refine cell_alloc ?_ ?_); · first | omega | (simp; done) | (simp; omega) | assumption) | ((with_reducible refine cell_set ?_ ?_); · first | (intro e; injection e; omega) | (intro e; simp at e; done) | (intro e; simp at e; omega)))); first | assumption | (simp; done)))
                                clear hK K
                                (try simp only [Act.put, List.setIfInBounds_toArray, List.set_cons_zero, List.set_cons_succ])
                                refine reg_on (i := 20) (d := 109) (v := ?rv61) rfl rfl (by kernel_rfl) (by kernel_rfl) (by kernel_rfl) (fun _ _ _ h => h) (by rfl) ?ry61 (by assumption) ?rr61
                                case ry61 => (intro wz hSw; (try dsimp only at hSw); go_simp; try with_reducible rfl)
                                (try simp only [Act.put, List.setIfInBounds_toArray, List.set_cons_zero, List.set_cons_succ])
                                refine wpAnyH_ready (rs := [5]) (by kernel_rfl) (by simp) ?_
                                refine AllReadyH.cons rfl (fun K hK => ?_) (AllReadyH.nil)
                                go_simp
                                refine hK.out _ _ ?_ (fun hHeld => ?_)
                                · ((try dsimp only); (repeat' apply And.intro); all_goals ((repeat (first | (with_reducible refine cell_drew ?_) | (with_reducible refine cell_drewN _ ?_) | ((with_reducible refine cell_alloc ?_ ?_); · first | omega | (simp; done) | (simp; omega) | assumption) | ((with_reducible refine cell_set ?_ ?_); · first | (intro e; injection e; omega) | (intro e; simp at e; done) | (intro e; simp at e; omega)))); first | assumption | (simp; done)))
                                clear hK K
                                (try simp only [Act.put, List.setIfInBounds_toArray, List.set_cons_zero, List.set_cons_succ])
                                have hst : lessI v (z + (pc : Int)) = lessI v (z + (pc : Int)) := rfl
                                refine wpAnyH_ready (rs := [21]) (by kernel_rfl) (by simp) ?_
                                refine AllReadyH.cons rfl (fun K hK => ?_) AllReadyH.nil
                                go_simp
                                go_at_call 42; refine (brLess_any _ _ _).mono ?_; rintro e wc ⟨rfl, rfl⟩
                                refine hK.out _ _ ?_ (fun hHeld => ?_)
                                · ((try dsimp only); (repeat' apply And.intro); all_goals ((repeat (first | (with_reducible refine cell_drew ?_) | (with_reducible refine cell_drewN _ ?_) | ((with_reducible refine cell_alloc ?_ ?_); · first | omega | (simp; done) | (simp; omega) | assumption) | ((with_reducible refine cell_set ?_ ?_); · first | (intro e; injection e; omega) | (intro e; simp at e; done) | (intro e; simp at e; omega)))); first | assumption | (simp; done)))
                                clear hK K
                                (try simp only [Act.put, List.setIfInBounds_toArray, List.set_cons_zero, List.set_cons_succ])
                                refine reg_on (i := 22) (d := 111) (v := ?rv63) rfl rfl (by kernel_rfl) (by kernel_rfl) (by kernel_rfl) (fun _ _ _ h => h) (by rfl) ?ry63 (by assumption) ?rr63
                                case ry63 => (intro wz hSw; (try dsimp only at hSw); go_simp; try with_reducible rfl)
                                (try simp only [Act.put, List.setIfInBounds_toArray, List.set_cons_zero, List.set_cons_succ])
                                refine wpAnyH_ready (rs := [23]) (by kernel_rfl) (by simp) ?_
                                refine AllReadyH.cons rfl (fun K hK => ?_) AllReadyH.nil
                                go_simp
                                refine hK.out _ _ ?_ (fun hHeld => ?_)
                                · ((try dsimp only); (repeat' apply And.intro); all_goals ((repeat (first | (with_reducible refine cell_drew ?_) | (with_reducible refine cell_drewN _ ?_) | ((with_reducible refine cell_alloc ?_ ?_); · first | omega | (simp; done) | (simp; omega) | assumption) | ((with_reducible refine cell_set ?_ ?_); · first | (intro e; injection e; omega) | (intro e; simp at e; done) | (intro e; simp at e; omega)))); first | assumption | (simp; done)))
                                clear hK K
                                (try simp only [Act.put, List.setIfInBounds_toArray, List.set_cons_zero, List.set_cons_succ])
                                refine wpAnyH_done (by kernel_rfl) ?_ _
                                go_wp2
                                go_roundw
                                case rel => exact ⟨t + 1, lessI v (z + (pc : Int)), by omega, by omega, by go_num, (HLES.out _ (by omega) (by omega)).1, (HLES.out _ (by omega) (by omega)).2, HNEXT.out _ _ BWB, HMIN.out z hz.out z0⟩
                                case measure => simp [intOf]; omega
                          · have htq : t = q := by omega
                            have hnlt : ¬ (t : Int) < (q : Int) := by omega
                            have hnx : Hid (updF f s v 0 = 0 ∧ (∀ k, s + 1 ≤ k → updF f s v k = 0) ∧ ∀ k, 0 < k → k < s + 1 → IsMin (CandM M p q k) (updF f s v k)) := by
                              obtain ⟨h1, h2, h3⟩ := hf.out
                              refine ⟨by rw [updF_ne (by omega)]; exact h1, fun k hk => by rw [updF_ne (by omega)]; exact h2 k (by omega), fun k k0 k1 => ?_⟩
                              by_cases e : k = s
                              · rw [e, updF_at]
                                have hm := hmin.out
                                rw [htq] at hm
                                exact hm
                              · rw [updF_ne e]; exact h3 k k0 (by omega)
                            go_wp2
                            go_roundw
                            case rel => exact ⟨s + 1, updF f s v, by omega, by omega, by go_num, hRS, hnx⟩
                            case measure => simp [intOf]; omega
                  · have hsN2 : s = N := by omega
                    have hnlt : ¬ (s : Int) < (N : Int) := by omega
                    rw [hsN2] at hf
                    have hfN : f N = 0 := hf.out.2.1 N (Nat.le_refl _)
                    have hDn := Lib.hid (hRf.out.done hlq hf.out.1 hfN hf.out.2.2)
                    have hcc := hRf.out.colCell hlq
                    obtain ⟨⟨v0, a0⟩, f0⟩ := hcc
                    have y1 : q < Y + 1 := by omega
                    have y2 : (q : Int) < (Y : Int) + 1 := by omega
                    clear hfN hRf
                    go_wp2
                    go_roundw
                    case rel => exact ⟨q + 1, _, _, by omega, by omega, by go_num, hDn⟩
                    case measure => simp [intOf]; omega
            · have hqe : q = Y + 1 := by omega
              have hnlq : ¬ (q : Int) ≤ (Y : Int) := by omega
              have hDn := hC.out
              rw [hqe] at hDn
              have hDn2 := Lib.hid (hDn.done hlt)
              have hcc := hDn.tabCell hlt
              obtain ⟨⟨v0, a0⟩, f0⟩ := hcc
              have y1 : p < X + 1 := by omega
              have y2 : (p : Int) < (X : Int) + 1 := by omega
              clear hDn hC
              go_wp2
              go_roundw
              case rel => exact ⟨p + 1, _, _, by omega, by omega, by go_num, hDn2⟩
              case measure => simp [intOf]; omega
      · have hpe : p = X + 1 := by omega
        have hnlt : ¬ (p : Int) ≤ (X : Int) := by omega
        rw [hpe] at hS
        go_wp2
        go_ret
        exact ⟨rfl, M, tab, hS.out⟩

end Go.Proofs.Ytobncknlipeinaa
