/-
  Contract: GoodStrips of the model.
-/
import Derived.Test.YtcocdidkkcjbgaaDoorGstM
namespace Go.Proofs.YtcocdidkkcjbgaaDoor
open Go.RowKit
set_option linter.unusedVariables false
set_option linter.unusedSimpArgs false

theorem own_newP (w : World) (e : TypeId) (z n : Nat) (cs : Array Value) (h : cs.size = n * z) (hn : n ≤ 1000000) {B : Nat} (hB : B ≤ w.heap.size) :
    (w.alloc (.cells cs e)).ownsRow B e z (.slice (some ⟨w.heap.size, 0, none⟩) n n) n cs.toList :=
  ⟨by simp [h], .inr ⟨w.heap.size, n, cs, rfl, hB, by simp only [World.alloc, Array.getElem?_push_size], Nat.le_refl _, by simp only [maxLen]; omega, h, by rw [List.take_of_length_le (by simp [h])]⟩⟩
theorem xr_in31 {a b : Int} (ha : 0 ≤ a) (ha2 : a ≤ 31) (hb : 0 ≤ b) (hb2 : b ≤ 31) : 0 ≤ xr a b ∧ xr a b ≤ 31 := by
  have h := Nat.xor_lt_two_pow (n := 5) (x := a.toNat) (y := b.toNat) (by omega) (by omega)
  unfold xr
  omega
theorem gsK_length {a l : Int} {u : Bool} {L : List Int} (hA : allS L = true) : ∀ k, k ≤ L.length → (gsK a l u L k).length ≤ 30 * k
  | 0, _ => by simp [gsK]
  | k + 1, hk => by
    have h1 := gsK_length (a := a) (l := l) (u := u) hA k (by omega)
    have hx : k < L.length := by omega
    have h2 := allS_at hA hx
    have h3 : L.getD k 0 = L[k] := by simp [List.getD, hx]
    have h4 := gsT_length (a := a) (l := l) (u := u) (x := L[k]) (i := k) (L[k] / 2).toNat
    rw [gsK, List.length_append, h3]
    unfold gs1
    omega
theorem length_gsR (L : List Int) (l : Int) (u : Bool) : (gsR L l u).length ≤ 240 := by
  unfold gsR
  cases h : okSS L l
  · simp
  · have hA := areS_true (by simp [okSS] at h; exact h.1)
    have := gsK_length (a := xsA l u L) (l := l) (u := u) hA.2.2 L.length (Nat.le_refl _)
    simp; omega

set_option maxRecDepth 100000 in
set_option maxHeartbeats 8000000 in
theorem sGoodStrips_any (A : Option Addr) (n c : Nat) (L : List Int) (l : Int) (u : Bool) (w : World) (hr : Rd w 1 A n (intCells L)) (hn : n ≤ 4000000000) :
    Calls Tryd.prog 14 #[.slice A n c, .int .i64 l, .bool u] w fun e w' => ∃ A' n' c', e = .returned (.tuple #[.slice A' n' c', .bool (okSS L l)]) ∧ (n' = (gsR L l u).length ∧ n' ≤ 1000000) ∧ OwnSS w' w.heap.size (.slice A' n' c') n' (prR (gsR L l u)) ∧ Below w.heap.size w w' := by
  have HRD := Lib.hid hr
  have HL := Lib.hid hr.ilen
  cases hk : okSS L l
  · rw [gsR_no hk]
    go_enter Tryd.func14, Tryd.ntmps14
    go_wp2_with fail
    refine (laStrips_any A n c L l _ hr hn).mono ?_; rintro e wx ⟨rfl, rfl⟩
    rw [hk]
    clear hk
    go_wp2
    go_ret2
    exact ⟨none, 0, 0, rfl, ⟨rfl, by omega⟩, OwnSS.nil _ _ _, Below.refl _ _⟩
  · obtain ⟨hA, hl⟩ : areS L = true ∧ inB l 1 60 = true := by simpa [okSS] using hk
    obtain ⟨hn1, hn8, hall⟩ := areS_true hA
    obtain ⟨l1, l2⟩ := inB_true hl
    have HALL := Lib.hid hall
    have HGR := Lib.hid (gsR_yes (u := u) hk)
    rw [HGR.out]
    have HV := Lib.hid (fun wx => laValues_any 60 l u wx (by omega) (by omega) l1 l2)
    have HXI : Hid (0 ≤ xsA l u L ∧ xsA l u L ≤ 31) := xsT_in (l := l) (u := u) hall L.length (Nat.le_refl _)
    obtain ⟨i0, hi, hz0, hz1, hz2⟩ := info_parts ints_info
    have h8 : n ≤ 8 := by rw [← HL.out]; omega
    go_enter Tryd.func14, Tryd.ntmps14
    go_wp2_with fail
    refine (laStrips_any A n c L l _ hr hn).mono ?_; rintro e wx ⟨rfl, rfl⟩
    rw [hk]
    clear hk hA hl hn1 hn8
    go_wp2_with fail
    refine (HV.out _).mono ?_; rintro e w2 ⟨g, rfl, own2, hb2⟩
    have HR2 := Lib.hid (HRD.out.later hb2 (Nat.le_refl _))
    have HO2 := Lib.hid own2
    have HB2 := Lib.hid hb2
    have s2 := hb2.size
    have hgB := own2.lt g rfl
    clear own2 hb2
    go_wp2_with fail
    refine (laAll_any A n c g L l u _ _ HR2.out hn HALL.out HO2.out).mono ?_; rintro e wx ⟨rfl, rfl⟩
    generalize hxx : xsA l u L = a at *
    have HXX := Lib.hid hxx
    clear hxx
    go_wp2
    go_loopw [10, 26] (fun v i wr => ∃ (k m : Nat) (A' : Option Addr) (c' : Nat), k ≤ n ∧ i = .int .i64 k ∧ v = .slice A' m c' ∧ m = (gsK a l u L k).length ∧ OwnSS wr w2.heap.size (.slice A' m c') m (prR (gsK a l u L k)) ∧ Below w2.heap.size w2 wr) (fun _ i _ => n - (intOf i).toNat)
    case atStart => exact ⟨0, 0, none, 0, by omega, rfl, rfl, rfl, OwnSS.nil _ _ _, Below.refl _ _⟩
    case round =>
      obtain ⟨k, m, A', c', hk, rfl, rfl, hm, hown, hB⟩ := hrel
      have sB := hB.size
      by_cases hlt : k < n
      · obtain ⟨b, o, rfl, hbl, hx, p0⟩ := (HR2.out.later hB (Nat.le_refl _)).num hlt
        obtain ⟨x1, x2⟩ := allS_at HALL.out hx
        have hgd : L.getD k 0 = L[k] := by simp [List.getD, hx]
        have HKS : Hid (gsK a l u L (k + 1) = gsK a l u L k ++ gs1 a l u L[k] k) := by rw [Hid, gsK, hgd]
        have HML := Lib.hid (gsK_length (a := a) (l := l) (u := u) HALL.out k (by omega))
        generalize L[k] = x at *
        obtain ⟨X, rfl⟩ : ∃ X : Nat, x = X := ⟨x.toNat, by omega⟩
        have HO := Lib.hid hown
        have HB := Lib.hid hB
        obtain ⟨wo, rfl⟩ : ∃ wo, wo = wr := ⟨_, rfl⟩
        clear hown hB hgd
        go_wp2
        go_loopw [10, 13] (fun v i wr => ∃ (j m' : Nat) (A' : Option Addr) (c' : Nat), j ≤ X / 2 ∧ i = .int .i64 ((j : Int) + 1) ∧ v = .slice A' m' c' ∧ m' = (gsK a l u L k ++ gsT a l u X k j).length ∧ OwnSS wr w2.heap.size (.slice A' m' c') m' (prR (gsK a l u L k ++ gsT a l u X k j)) ∧ Below w2.heap.size w2 wr) (fun _ i _ => 62 - (intOf i).toNat)
        case atStart => exact ⟨0, m, A', c', by omega, rfl, rfl, by simpa [gsT, smT] using hm, by have h := HO.out; simpa [gsT, smT] using h, HB.out⟩
        case round =>
          obtain ⟨j, m', A2, c2, hj, rfl, rfl, hm', hown, hB2⟩ := hrel
          have sB2 := hB2.size
          by_cases hlj : j < X / 2
          · have hlti : 2 * ((j : Int) + 1) ≤ (X : Int) := by omega
            have wm : IntKind.i64.wrap (2 * ((j : Int) + 1)) = 2 * ((j : Int) + 1) := IntWalk.i64_in _ (by omega)
            obtain ⟨D, hD⟩ : ∃ D, D + (j + 1) = X := ⟨X - (j + 1), by omega⟩
            have hrow := own_later HO2.out hB2 (Nat.le_refl _)
            have q1 := hrow.cellAt X (by omega)
            rw [tabF_cell _ (by omega)] at q1
            have q2 := hrow.cellAt (j + 1) (by omega)
            rw [tabF_cell _ (by omega)] at q2
            have q3 := hrow.cellAt D (by omega)
            rw [tabF_cell _ (by omega)] at q3
            have q1 : wr.cell? ⟨g, X, none⟩ = some (.int .i64 (vS l u X)) := q1
            have q2 : wr.cell? ⟨g, j + 1, none⟩ = some (.int .i64 (vS l u (j + 1))) := q2
            have q3 : wr.cell? ⟨g, D, none⟩ = some (.int .i64 (vS l u D)) := q3
            have HG : Hid (gsB a l u X ((j : Int) + 1) = decide (xr (xr (xr a (vS l u X)) (vS l u (j + 1))) (vS l u D) = 0)) := by
              rw [Hid, gsB, show ((X : Int)).toNat - ((j : Int) + 1).toNat = D by omega, show ((j : Int) + 1).toNat = j + 1 by omega, show ((X : Int)).toNat = X by omega]
              exact decide_eq_decide.2 xr_zero.symm
            have v1 := vS_in (l := l) (u := u) (n := X) (by omega)
            have v2 := vS_in (l := l) (u := u) (n := j + 1) (by omega)
            have v3 := vS_in (l := l) (u := u) (n := D) (by omega)
            have HLC := laCan_any X ((j : Int) + 1) l u
            generalize vS l u X = u1 at *
            generalize vS l u (j + 1) = u2 at *
            generalize vS l u D = u3 at *
            have X1 := xr_bits HXI.out.1 HXI.out.2 v1.1 v1.2
            have k1 := xr_in31 HXI.out.1 HXI.out.2 v1.1 v1.2
            generalize xr a u1 = z1 at *
            have X2 := xr_bits k1.1 k1.2 v2.1 v2.2
            have k2 := xr_in31 k1.1 k1.2 v2.1 v2.2
            generalize xr z1 u2 = z2 at *
            have X3 := xr_bits k2.1 k2.2 v3.1 v3.2
            generalize xr z2 u3 = z3 at *
            have y1 : (X : Int) < 61 := by omega
            have y2 : (j : Int) + 1 < 61 := by omega
            have y3 : (D : Int) < 61 := by omega
            have y4 : X < 61 := by omega
            have y5 : j + 1 < 61 := by omega
            have y6 : D < 61 := by omega
            have y7 : (0 : Int) ≤ (X : Int) := by omega
            have y8 : (0 : Int) ≤ (j : Int) + 1 := by omega
            have y9 : (0 : Int) ≤ (D : Int) := by omega
            have wsub : IntKind.i64.wrap ((X : Int) - ((j : Int) + 1)) = (D : Int) := by rw [show (X : Int) - ((j : Int) + 1) = D by omega]; exact IntWalk.i64_in _ (by omega)
            have wj : IntKind.i64.wrap ((j : Int) + 1) = (j : Int) + 1 := IntWalk.i64_in _ (by omega)
            have wj2 : IntKind.i64.wrap ((j : Int) + 1 + 1) = (j : Int) + 1 + 1 := IntWalk.i64_in _ (by omega)
            have HD := Lib.hid hD
            have HM' := Lib.hid hm'
            have HLC2 := Lib.hid (fun wx => HLC wx x1 x2 l1 l2 (by omega) (by omega))
            clear HLC hrow v1 v2 v3 k1 k2 hD hm'
            cases hc : canS X ((j : Int) + 1) l u
            · have HNO := Lib.hid (gsT_no (a := a) (i := (k : Int)) hc)
              rw [hc] at HLC2
              have HSS := Lib.hid hown
              have HBB := Lib.hid hB2
              clear hc hown hB2
              go_wp2
              refine wp_region_held_drew (S := (fun w' => w'.cell? ⟨g, X, none⟩ = some (.int .i64 u1) ∧ w'.cell? ⟨g, j + 1, none⟩ = some (.int .i64 u2) ∧ w'.cell? ⟨g, D, none⟩ = some (.int .i64 u3))) (by kernel_rfl) ?_ (fun hHeld => ?_)
              · ((try dsimp only); (repeat' apply And.intro); all_goals ((repeat (first | (with_reducible refine cell_drew ?_) | (with_reducible refine cell_drewN _ ?_) | ((with_reducible refine cell_alloc ?_ ?_); · first | omega | (simp; done) | (simp; omega) | assumption) | ((with_reducible refine cell_set ?_ ?_); · first | (intro e; injection e; omega) | (intro e; simp at e; done) | (intro e; simp at e; omega)))); first | assumption | (simp; done)))
              refine reg_on (i := 0) (d := 37) (v := ?rv1) rfl rfl (by kernel_rfl) (by kernel_rfl) (by kernel_rfl) (fun _ _ _ h => h) (by rfl) ?ry1 (by assumption) ?rr1
              case ry1 => (intro wz hSw; (try dsimp only at hSw); go_simp; try with_reducible rfl)
              (try simp only [Act.put, List.setIfInBounds_toArray, List.set_cons_zero, List.set_cons_succ])
              refine reg_on (i := 1) (d := 38) (v := ?rv2) rfl rfl (by kernel_rfl) (by kernel_rfl) (by kernel_rfl) (fun _ _ _ h => h) (by rfl) ?ry2 (by assumption) ?rr2
              case ry2 => (intro wz hSw; (try dsimp only at hSw); go_simp; try with_reducible rfl)
              (try simp only [Act.put, List.setIfInBounds_toArray, List.set_cons_zero, List.set_cons_succ])
              refine reg_on (i := 2) (d := 39) (v := ?rv3) rfl rfl (by kernel_rfl) (by kernel_rfl) (by kernel_rfl) (fun _ _ _ h => h) (by rfl) ?ry3 (by assumption) ?rr3
              case ry3 => (intro wz hSw; (try dsimp only at hSw); go_simp; try with_reducible rfl)
              (try simp only [Act.put, List.setIfInBounds_toArray, List.set_cons_zero, List.set_cons_succ])
              refine reg_on (i := 3) (d := 40) (v := ?rv4) rfl rfl (by kernel_rfl) (by kernel_rfl) (by kernel_rfl) (fun _ _ _ h => h) (by rfl) ?ry4 (by assumption) ?rr4
              case ry4 => (intro wz hSw; (try dsimp only at hSw); go_simp; try with_reducible rfl)
              (try simp only [Act.put, List.setIfInBounds_toArray, List.set_cons_zero, List.set_cons_succ])
              refine wpAnyH_ready (rs := [4]) (by kernel_rfl) (by simp) ?_
              refine AllReadyH.cons rfl (fun K hK => ?_) AllReadyH.nil
              go_simp
              go_at_call 33; refine (HLC2.out _).mono ?_; rintro e wx ⟨rfl, rfl⟩
              refine hK.out _ _ ?_ (fun hHeld => ?_)
              · ((try dsimp only); (repeat' apply And.intro); all_goals ((repeat (first | (with_reducible refine cell_drew ?_) | (with_reducible refine cell_drewN _ ?_) | ((with_reducible refine cell_alloc ?_ ?_); · first | omega | (simp; done) | (simp; omega) | assumption) | ((with_reducible refine cell_set ?_ ?_); · first | (intro e; injection e; omega) | (intro e; simp at e; done) | (intro e; simp at e; omega)))); first | assumption | (simp; done)))
              clear hK K
              (try simp only [Act.put, List.setIfInBounds_toArray, List.set_cons_zero, List.set_cons_succ])
              refine reg_on (i := 5) (d := 42) (v := ?rv6) rfl rfl (by kernel_rfl) (by kernel_rfl) (by kernel_rfl) (fun _ _ _ h => h) (by rfl) ?ry6 (by assumption) ?rr6
              case ry6 => (intro wz hSw; (try dsimp only at hSw); go_simp; try with_reducible rfl)
              (try simp only [Act.put, List.setIfInBounds_toArray, List.set_cons_zero, List.set_cons_succ])
              refine reg_off (i := 6) (d := 43) rfl rfl (by kernel_rfl) (by kernel_rfl) (by kernel_rfl) (fun _ _ _ h => h) (by rfl) (by assumption) ?_; (try simp only [Act.put, List.setIfInBounds_toArray, List.set_cons_zero, List.set_cons_succ])
              refine reg_off (i := 7) (d := 44) rfl rfl (by kernel_rfl) (by kernel_rfl) (by kernel_rfl) (fun _ _ _ h => h) (by rfl) (by assumption) ?_; (try simp only [Act.put, List.setIfInBounds_toArray, List.set_cons_zero, List.set_cons_succ])
              refine reg_off (i := 8) (d := 45) rfl rfl (by kernel_rfl) (by kernel_rfl) (by kernel_rfl) (fun _ _ _ h => h) (by rfl) (by assumption) ?_; (try simp only [Act.put, List.setIfInBounds_toArray, List.set_cons_zero, List.set_cons_succ])
              refine reg_off (i := 9) (d := 46) rfl rfl (by kernel_rfl) (by kernel_rfl) (by kernel_rfl) (fun _ _ _ h => h) (by rfl) (by assumption) ?_; (try simp only [Act.put, List.setIfInBounds_toArray, List.set_cons_zero, List.set_cons_succ])
              refine reg_off (i := 10) (d := 47) rfl rfl (by kernel_rfl) (by kernel_rfl) (by kernel_rfl) (fun _ _ _ h => h) (by rfl) (by assumption) ?_; (try simp only [Act.put, List.setIfInBounds_toArray, List.set_cons_zero, List.set_cons_succ])
              refine reg_off (i := 11) (d := 48) rfl rfl (by kernel_rfl) (by kernel_rfl) (by kernel_rfl) (fun _ _ _ h => h) (by rfl) (by assumption) ?_; (try simp only [Act.put, List.setIfInBounds_toArray, List.set_cons_zero, List.set_cons_succ])
              refine reg_off (i := 12) (d := 49) rfl rfl (by kernel_rfl) (by kernel_rfl) (by kernel_rfl) (fun _ _ _ h => h) (by rfl) (by assumption) ?_; (try simp only [Act.put, List.setIfInBounds_toArray, List.set_cons_zero, List.set_cons_succ])
              refine reg_off (i := 13) (d := 50) rfl rfl (by kernel_rfl) (by kernel_rfl) (by kernel_rfl) (fun _ _ _ h => h) (by rfl) (by assumption) ?_; (try simp only [Act.put, List.setIfInBounds_toArray, List.set_cons_zero, List.set_cons_succ])
              refine reg_off (i := 14) (d := 51) rfl rfl (by kernel_rfl) (by kernel_rfl) (by kernel_rfl) (fun _ _ _ h => h) (by rfl) (by assumption) ?_; (try simp only [Act.put, List.setIfInBounds_toArray, List.set_cons_zero, List.set_cons_succ])
              refine reg_off (i := 15) (d := 52) rfl rfl (by kernel_rfl) (by kernel_rfl) (by kernel_rfl) (fun _ _ _ h => h) (by rfl) (by assumption) ?_; (try simp only [Act.put, List.setIfInBounds_toArray, List.set_cons_zero, List.set_cons_succ])
              refine reg_off (i := 16) (d := 53) rfl rfl (by kernel_rfl) (by kernel_rfl) (by kernel_rfl) (fun _ _ _ h => h) (by rfl) (by assumption) ?_; (try simp only [Act.put, List.setIfInBounds_toArray, List.set_cons_zero, List.set_cons_succ])
              refine reg_off (i := 17) (d := 54) rfl rfl (by kernel_rfl) (by kernel_rfl) (by kernel_rfl) (fun _ _ _ h => h) (by rfl) (by assumption) ?_; (try simp only [Act.put, List.setIfInBounds_toArray, List.set_cons_zero, List.set_cons_succ])
              refine reg_off (i := 18) (d := 55) rfl rfl (by kernel_rfl) (by kernel_rfl) (by kernel_rfl) (fun _ _ _ h => h) (by rfl) (by assumption) ?_; (try simp only [Act.put, List.setIfInBounds_toArray, List.set_cons_zero, List.set_cons_succ])
              refine reg_off (i := 19) (d := 56) rfl rfl (by kernel_rfl) (by kernel_rfl) (by kernel_rfl) (fun _ _ _ h => h) (by rfl) (by assumption) ?_; (try simp only [Act.put, List.setIfInBounds_toArray, List.set_cons_zero, List.set_cons_succ])
              refine reg_off (i := 20) (d := 57) rfl rfl (by kernel_rfl) (by kernel_rfl) (by kernel_rfl) (fun _ _ _ h => h) (by rfl) (by assumption) ?_; (try simp only [Act.put, List.setIfInBounds_toArray, List.set_cons_zero, List.set_cons_succ])
              refine reg_off (i := 21) (d := 58) rfl rfl (by kernel_rfl) (by kernel_rfl) (by kernel_rfl) (fun _ _ _ h => h) (by rfl) (by assumption) ?_; (try simp only [Act.put, List.setIfInBounds_toArray, List.set_cons_zero, List.set_cons_succ])
              refine reg_off (i := 22) (d := 59) rfl rfl (by kernel_rfl) (by kernel_rfl) (by kernel_rfl) (fun _ _ _ h => h) (by rfl) (by assumption) ?_; (try simp only [Act.put, List.setIfInBounds_toArray, List.set_cons_zero, List.set_cons_succ])
              refine reg_off (i := 23) (d := 60) rfl rfl (by kernel_rfl) (by kernel_rfl) (by kernel_rfl) (fun _ _ _ h => h) (by rfl) (by assumption) ?_; (try simp only [Act.put, List.setIfInBounds_toArray, List.set_cons_zero, List.set_cons_succ])
              refine reg_off (i := 24) (d := 61) rfl rfl (by kernel_rfl) (by kernel_rfl) (by kernel_rfl) (fun _ _ _ h => h) (by rfl) (by assumption) ?_; (try simp only [Act.put, List.setIfInBounds_toArray, List.set_cons_zero, List.set_cons_succ])
              refine reg_on (i := 25) (d := 62) (v := ?rv26) rfl rfl (by kernel_rfl) (by kernel_rfl) (by kernel_rfl) (fun _ _ _ h => h) (by rfl) ?ry26 (by assumption) ?rr26
              case ry26 => (intro wz hSw; (try dsimp only at hSw); go_simp; try with_reducible rfl)
              (try simp only [Act.put, List.setIfInBounds_toArray, List.set_cons_zero, List.set_cons_succ])
              refine wpAnyH_done (by kernel_rfl) ?_ _
              go_wp2
              go_roundw
              case rel => exact ⟨j + 1, m', A2, c2, by omega, by go_num, rfl, by rw [HNO.out]; exact HM'.out, by rw [HNO.out]; exact OwnSS.later HSS.out (Below.refl wr.heap.size wr).drew (Nat.le_refl _), HBB.out.drew⟩
              case measure => simp [intOf]; omega
            · rw [hc] at HLC2
              by_cases h0 : z3 = 0
              · have tz : (z3 == (0 : Int)) = true := by simp [h0]
                have HYES := Lib.hid (gsT_yes (a := a) (i := (k : Int)) hc (by rw [HG.out]; simp [h0]))
                have HSS := Lib.hid (OwnSS.later hown (Below.refl wr.heap.size wr).drew (Nat.le_refl _))
                have HBB := Lib.hid hB2.drew
                have sB3 : w2.heap.size ≤ wr.drew.heap.size := sB2
                clear hc hown hB2 h0
                go_wp2
                refine wp_region_held_drew (S := (fun w' => w'.cell? ⟨g, X, none⟩ = some (.int .i64 u1) ∧ w'.cell? ⟨g, j + 1, none⟩ = some (.int .i64 u2) ∧ w'.cell? ⟨g, D, none⟩ = some (.int .i64 u3))) (by kernel_rfl) ?_ (fun hHeld => ?_)
                · ((try dsimp only); (repeat' apply And.intro); all_goals ((repeat (first | (with_reducible refine cell_drew ?_) | (with_reducible refine cell_drewN _ ?_) | ((with_reducible refine cell_alloc ?_ ?_); · first | omega | (simp; done) | (simp; omega) | assumption) | ((with_reducible refine cell_set ?_ ?_); · first | (intro e; injection e; omega) | (intro e; simp at e; done) | (intro e; simp at e; omega)))); first | assumption | (simp; done)))
                refine reg_on (i := 0) (d := 37) (v := ?rv27) rfl rfl (by kernel_rfl) (by kernel_rfl) (by kernel_rfl) (fun _ _ _ h => h) (by rfl) ?ry27 (by assumption) ?rr27
                case ry27 => (intro wz hSw; (try dsimp only at hSw); go_simp; try with_reducible rfl)
                (try simp only [Act.put, List.setIfInBounds_toArray, List.set_cons_zero, List.set_cons_succ])
                refine reg_on (i := 1) (d := 38) (v := ?rv28) rfl rfl (by kernel_rfl) (by kernel_rfl) (by kernel_rfl) (fun _ _ _ h => h) (by rfl) ?ry28 (by assumption) ?rr28
                case ry28 => (intro wz hSw; (try dsimp only at hSw); go_simp; try with_reducible rfl)
                (try simp only [Act.put, List.setIfInBounds_toArray, List.set_cons_zero, List.set_cons_succ])
                refine reg_on (i := 2) (d := 39) (v := ?rv29) rfl rfl (by kernel_rfl) (by kernel_rfl) (by kernel_rfl) (fun _ _ _ h => h) (by rfl) ?ry29 (by assumption) ?rr29
                case ry29 => (intro wz hSw; (try dsimp only at hSw); go_simp; try with_reducible rfl)
                (try simp only [Act.put, List.setIfInBounds_toArray, List.set_cons_zero, List.set_cons_succ])
                refine reg_on (i := 3) (d := 40) (v := ?rv30) rfl rfl (by kernel_rfl) (by kernel_rfl) (by kernel_rfl) (fun _ _ _ h => h) (by rfl) ?ry30 (by assumption) ?rr30
                case ry30 => (intro wz hSw; (try dsimp only at hSw); go_simp; try with_reducible rfl)
                (try simp only [Act.put, List.setIfInBounds_toArray, List.set_cons_zero, List.set_cons_succ])
                refine wpAnyH_ready (rs := [4]) (by kernel_rfl) (by simp) ?_
                refine AllReadyH.cons rfl (fun K hK => ?_) AllReadyH.nil
                go_simp
                go_at_call 33; refine (HLC2.out _).mono ?_; rintro e wx ⟨rfl, rfl⟩
                refine hK.out _ _ ?_ (fun hHeld => ?_)
                · ((try dsimp only); (repeat' apply And.intro); all_goals ((repeat (first | (with_reducible refine cell_drew ?_) | (with_reducible refine cell_drewN _ ?_) | ((with_reducible refine cell_alloc ?_ ?_); · first | omega | (simp; done) | (simp; omega) | assumption) | ((with_reducible refine cell_set ?_ ?_); · first | (intro e; injection e; omega) | (intro e; simp at e; done) | (intro e; simp at e; omega)))); first | assumption | (simp; done)))
                clear hK K
                (try simp only [Act.put, List.setIfInBounds_toArray, List.set_cons_zero, List.set_cons_succ])
                refine reg_on (i := 5) (d := 42) (v := ?rv32) rfl rfl (by kernel_rfl) (by kernel_rfl) (by kernel_rfl) (fun _ _ _ h => h) (by rfl) ?ry32 (by assumption) ?rr32
                case ry32 => (intro wz hSw; (try dsimp only at hSw); go_simp; try with_reducible rfl)
                (try simp only [Act.put, List.setIfInBounds_toArray, List.set_cons_zero, List.set_cons_succ])
                refine reg_on (i := 6) (d := 43) (v := ?rv33) rfl rfl (by kernel_rfl) (by kernel_rfl) (by kernel_rfl) (fun _ _ _ h => h) (by rfl) ?ry33 (by assumption) ?rr33
                case ry33 => (intro wz hSw; (try dsimp only at hSw); go_simp; try with_reducible rfl)
                (try simp only [Act.put, List.setIfInBounds_toArray, List.set_cons_zero, List.set_cons_succ])
                refine reg_on (i := 7) (d := 44) (v := ?rv34) rfl rfl (by kernel_rfl) (by kernel_rfl) (by kernel_rfl) (fun _ _ _ h => h) (by rfl) ?ry34 (by assumption) ?rr34
                case ry34 => (intro wz hSw; (try dsimp only at hSw); go_simp; try with_reducible rfl)
                (try simp only [Act.put, List.setIfInBounds_toArray, List.set_cons_zero, List.set_cons_succ])
                refine reg_on (i := 8) (d := 45) (v := ?rv35) rfl rfl (by kernel_rfl) (by kernel_rfl) (by kernel_rfl) (fun _ _ _ h => h) (by rfl) ?ry35 (by assumption) ?rr35
                case ry35 => (intro wz hSw; (try dsimp only at hSw); go_simp; try with_reducible rfl)
                (try simp only [Act.put, List.setIfInBounds_toArray, List.set_cons_zero, List.set_cons_succ])
                refine reg_on (i := 9) (d := 46) (v := ?rv36) rfl rfl (by kernel_rfl) (by kernel_rfl) (by kernel_rfl) (fun _ _ _ h => h) (by rfl) ?ry36 (by assumption) ?rr36
                case ry36 => (intro wz hSw; (try dsimp only at hSw); go_simp; try with_reducible rfl)
                (try simp only [Act.put, List.setIfInBounds_toArray, List.set_cons_zero, List.set_cons_succ])
                refine reg_on (i := 10) (d := 47) (v := ?rv37) rfl rfl (by kernel_rfl) (by kernel_rfl) (by kernel_rfl) (fun _ _ _ h => h) (by rfl) ?ry37 (by assumption) ?rr37
                case ry37 => (intro wz hSw; (try dsimp only at hSw); go_simp; try with_reducible rfl)
                (try simp only [Act.put, List.setIfInBounds_toArray, List.set_cons_zero, List.set_cons_succ])
                refine reg_on (i := 11) (d := 48) (v := ?rv38) rfl rfl (by kernel_rfl) (by kernel_rfl) (by kernel_rfl) (fun _ _ _ h => h) (by rfl) ?ry38 (by assumption) ?rr38
                case ry38 => (intro wz hSw; (try dsimp only at hSw); go_simp; try with_reducible rfl)
                (try simp only [Act.put, List.setIfInBounds_toArray, List.set_cons_zero, List.set_cons_succ])
                refine reg_on (i := 12) (d := 49) (v := ?rv39) rfl rfl (by kernel_rfl) (by kernel_rfl) (by kernel_rfl) (fun _ _ _ h => h) (by rfl) ?ry39 (by assumption) ?rr39
                case ry39 => (intro wz hSw; (try dsimp only at hSw); go_simp; try with_reducible rfl)
                (try simp only [Act.put, List.setIfInBounds_toArray, List.set_cons_zero, List.set_cons_succ])
                refine reg_on (i := 13) (d := 50) (v := ?rv40) rfl rfl (by kernel_rfl) (by kernel_rfl) (by kernel_rfl) (fun _ _ _ h => h) (by rfl) ?ry40 (by assumption) ?rr40
                case ry40 => (intro wz hSw; (try dsimp only at hSw); go_simp; try with_reducible rfl)
                (try simp only [Act.put, List.setIfInBounds_toArray, List.set_cons_zero, List.set_cons_succ])
                refine reg_on (i := 14) (d := 51) (v := ?rv41) rfl rfl (by kernel_rfl) (by kernel_rfl) (by kernel_rfl) (fun _ _ _ h => h) (by rfl) ?ry41 (by assumption) ?rr41
                case ry41 => (intro wz hSw; (try dsimp only at hSw); go_simp; try with_reducible rfl)
                (try simp only [Act.put, List.setIfInBounds_toArray, List.set_cons_zero, List.set_cons_succ])
                refine reg_on (i := 15) (d := 52) (v := ?rv42) rfl rfl (by kernel_rfl) (by kernel_rfl) (by kernel_rfl) (fun _ _ _ h => h) (by rfl) ?ry42 (by assumption) ?rr42
                case ry42 => (intro wz hSw; (try dsimp only at hSw); go_simp; try with_reducible rfl)
                (try simp only [Act.put, List.setIfInBounds_toArray, List.set_cons_zero, List.set_cons_succ])
                refine reg_on (i := 16) (d := 53) (v := ?rv43) rfl rfl (by kernel_rfl) (by kernel_rfl) (by kernel_rfl) (fun _ _ _ h => h) (by rfl) ?ry43 (by assumption) ?rr43
                case ry43 => (intro wz hSw; (try dsimp only at hSw); go_simp; try with_reducible rfl)
                (try simp only [Act.put, List.setIfInBounds_toArray, List.set_cons_zero, List.set_cons_succ])
                refine reg_on (i := 17) (d := 54) (v := ?rv44) rfl rfl (by kernel_rfl) (by kernel_rfl) (by kernel_rfl) (fun _ _ _ h => h) (by rfl) ?ry44 (by assumption) ?rr44
                case ry44 => (intro wz hSw; (try dsimp only at hSw); go_simp; try with_reducible rfl)
                (try simp only [Act.put, List.setIfInBounds_toArray, List.set_cons_zero, List.set_cons_succ])
                refine reg_on (i := 18) (d := 55) (v := ?rv45) rfl rfl (by kernel_rfl) (by kernel_rfl) (by kernel_rfl) (fun _ _ _ h => h) (by rfl) ?ry45 (by assumption) ?rr45
                case ry45 => (intro wz hSw; (try dsimp only at hSw); go_simp; try with_reducible rfl)
                (try simp only [Act.put, List.setIfInBounds_toArray, List.set_cons_zero, List.set_cons_succ])
                refine reg_on (i := 19) (d := 56) (v := ?rv46) rfl rfl (by kernel_rfl) (by kernel_rfl) (by kernel_rfl) (fun _ _ _ h => h) (by rfl) ?ry46 (by assumption) ?rr46
                case ry46 => (intro wz hSw; (try dsimp only at hSw); go_simp; try with_reducible rfl)
                (try simp only [Act.put, List.setIfInBounds_toArray, List.set_cons_zero, List.set_cons_succ])
                refine reg_on (i := 20) (d := 57) (v := ?rv47) rfl rfl (by kernel_rfl) (by kernel_rfl) (by kernel_rfl) (fun _ _ _ h => h) (by rfl) ?ry47 (by assumption) ?rr47
                case ry47 => (intro wz hSw; (try dsimp only at hSw); go_simp; try with_reducible rfl)
                (try simp only [Act.put, List.setIfInBounds_toArray, List.set_cons_zero, List.set_cons_succ])
                refine reg_on (i := 21) (d := 58) (v := ?rv48) rfl rfl (by kernel_rfl) (by kernel_rfl) (by kernel_rfl) (fun _ _ _ h => h) (by rfl) ?ry48 (by assumption) ?rr48
                case ry48 => (intro wz hSw; (try dsimp only at hSw); go_simp; try with_reducible rfl)
                (try simp only [Act.put, List.setIfInBounds_toArray, List.set_cons_zero, List.set_cons_succ])
                refine reg_on (i := 22) (d := 59) (v := ?rv49) rfl rfl (by kernel_rfl) (by kernel_rfl) (by kernel_rfl) (fun _ _ _ h => h) (by rfl) ?ry49 (by assumption) ?rr49
                case ry49 => (intro wz hSw; (try dsimp only at hSw); go_simp; try with_reducible rfl)
                (try simp only [Act.put, List.setIfInBounds_toArray, List.set_cons_zero, List.set_cons_succ])
                refine reg_on (i := 23) (d := 60) (v := ?rv50) rfl rfl (by kernel_rfl) (by kernel_rfl) (by kernel_rfl) (fun _ _ _ h => h) (by rfl) ?ry50 (by assumption) ?rr50
                case ry50 => (intro wz hSw; (try dsimp only at hSw); go_simp; try with_reducible rfl)
                (try simp only [Act.put, List.setIfInBounds_toArray, List.set_cons_zero, List.set_cons_succ])
                refine reg_on (i := 24) (d := 61) (v := ?rv51) rfl rfl (by kernel_rfl) (by kernel_rfl) (by kernel_rfl) (fun _ _ _ h => h) (by rfl) ?ry51 (by assumption) ?rr51
                case ry51 => (intro wz hSw; (try dsimp only at hSw); go_simp; try with_reducible rfl)
                (try simp only [Act.put, List.setIfInBounds_toArray, List.set_cons_zero, List.set_cons_succ])
                refine reg_on (i := 25) (d := 62) (v := ?rv52) rfl rfl (by kernel_rfl) (by kernel_rfl) (by kernel_rfl) (fun _ _ _ h => h) (by rfl) ?ry52 (by assumption) ?rr52
                case ry52 => (intro wz hSw; (try dsimp only at hSw); go_simp; try with_reducible rfl)
                (try simp only [Act.put, List.setIfInBounds_toArray, List.set_cons_zero, List.set_cons_succ])
                refine wpAnyH_done (by kernel_rfl) ?_ _
                clear q1 q2 q3 hHeld
                generalize wr.drew = wd at *
                obtain ⟨AA, CC, ho⟩ := HSS.out
                have HOA := Lib.hid ho
                have hbz : Below wd.heap.size wd ((wd.alloc (.cells #[.int .i64 k, .int .i64 ((j : Int) + 1)] 3)).alloc (.cells #[.slice (some ⟨wd.heap.size, 0, none⟩) 2 2] 33)) := by (repeat (first | (with_reducible exact Below.refl _ _) | (with_reducible assumption) | (with_reducible refine Below.drew ?_) | ((with_reducible refine balloc ?_ _ ?_); · (first | (simp; done) | (simp; omega) | omega)) | ((with_reducible refine bset ?_ _ ?_); · (first | (simp; done) | (simp; omega) | omega)) | (with_reducible refine bdrewN _ ?_) | ((with_reducible refine bcall ?_ (by assumption) ?_); · (first | (simp; done) | (simp; omega) | omega))))
                have hnew : (wd.alloc (.cells #[.int .i64 k, .int .i64 ((j : Int) + 1)] 3)).ownsRow wd.heap.size 3 1 (.slice (some ⟨wd.heap.size, 0, none⟩) 2 2) 2 (intCells [(k : Int), (j : Int) + 1]) := by
                  have h := own_newP wd 3 1 2 #[.int .i64 k, .int .i64 ((j : Int) + 1)] rfl (by omega) (B := wd.heap.size) (by simp)
                  simpa [intCells] using h
                have HN := Lib.hid (World.ownsRow.alloc hnew (.cells #[.slice (some ⟨wd.heap.size, 0, none⟩) 2 2] 33))
                have HBZ := Lib.hid hbz
                have htop2 := World.ownsRow.alloc (World.ownsRow.alloc ho.top (.cells #[.int .i64 k, .int .i64 ((j : Int) + 1)] 3)) (.cells #[.slice (some ⟨wd.heap.size, 0, none⟩) 2 2] 33)
                have HT2 := Lib.hid htop2
                have hnw := new1 (wd.alloc (.cells #[.int .i64 k, .int .i64 ((j : Int) + 1)] 3)) 33 (.slice (some ⟨wd.heap.size, 0, none⟩) 2 2)
                rw [show (wd.alloc (.cells #[.int .i64 k, .int .i64 ((j : Int) + 1)] 3)).heap.size = wd.heap.size + 1 by simp] at hnw
                have HLEN := Lib.hid (gsT_length (a := a) (l := l) (u := u) (x := (X : Int)) (i := (k : Int)) j)
                have hm240 : m' ≤ 300 := by have e1 := HM'.out; have e2 := HLEN.out; have e3 := HML.out; rw [List.length_append] at e1; omega
                have hc3 : m' + 1 ≤ maxLen := by simp only [maxLen]; omega
                clear ho hnew htop2 hbz
                go_wp2_with (at_builtin; refine wpList_append_own _ rfl (.tmp 63) (.tmp 67) 34 rfl w2.heap.size 33 i0 (.slice none 0 0) 1 24 Tryd.underlying34 hi hz0 hz1 hz2 rfl (by decide) _ _ _ rfl HT2.out ⟨wd.heap.size + 1, 0, none⟩ 1 1 [.slice (some ⟨wd.heap.size, 0, none⟩) 2 2] rfl rfl hnw (by intro u hu; simp at hu; subst hu; rfl) hc3 (by omega) (Nat.le_trans sB3 (by simp; omega)) ?_)
                intro v' w9 hown' hgrow _
                obtain ⟨A9, c9, rfl⟩ := own_slice hown'
                have hss := OwnAC.push HOA.out HBZ.out HN.out sB3 hgrow hown'
                have hb9 : Below w2.heap.size w2 w9 := gb_new (Nat.le_refl _) (HBB.out.trans (HBZ.out.mono sB3)) hgrow (fun g hg => (HOA.out.top.lt g hg).1)
                have HS9 : Hid (OwnSS w9 w2.heap.size (.slice A9 (m' + 1) c9) (m' + 1) (prR (gsK a l u L k ++ gsT a l u X k (j + 1)))) := hss.congr fun i hi => by
                  rw [HYES.out, ← List.append_assoc]
                  exact prR_snoc HM'.out.symm ((k : Int), (j : Int) + 1) i hi
                have HB9 := Lib.hid hb9
                clear hss hb9 hgrow hown' HOA HBZ HN HT2 HBB HSS hnw
                go_wp2
                go_roundw
                case rel => exact ⟨j + 1, m' + 1, A9, c9, by omega, by go_num, rfl, by rw [HYES.out, ← List.append_assoc, List.length_append (bs := [((k : Int), (j : Int) + 1)]), ← HM'.out]; rfl, HS9.out, HB9.out⟩
                case measure => simp [intOf]; omega
              · have tz : (z3 == (0 : Int)) = false := by simp [h0]
                have HNO := Lib.hid (gsT_bad (a := a) (l := l) (u := u) (x := (X : Int)) (i := (k : Int)) (k := j) (by rw [HG.out]; simp [h0]))
                have HSS := Lib.hid hown
                have HBB := Lib.hid hB2
                clear hc hown hB2 h0
                go_wp2
                refine wp_region_held_drew (S := (fun w' => w'.cell? ⟨g, X, none⟩ = some (.int .i64 u1) ∧ w'.cell? ⟨g, j + 1, none⟩ = some (.int .i64 u2) ∧ w'.cell? ⟨g, D, none⟩ = some (.int .i64 u3))) (by kernel_rfl) ?_ (fun hHeld => ?_)
                · ((try dsimp only); (repeat' apply And.intro); all_goals ((repeat (first | (with_reducible refine cell_drew ?_) | (with_reducible refine cell_drewN _ ?_) | ((with_reducible refine cell_alloc ?_ ?_); · first | omega | (simp; done) | (simp; omega) | assumption) | ((with_reducible refine cell_set ?_ ?_); · first | (intro e; injection e; omega) | (intro e; simp at e; done) | (intro e; simp at e; omega)))); first | assumption | (simp; done)))
                refine reg_on (i := 0) (d := 37) (v := ?rv53) rfl rfl (by kernel_rfl) (by kernel_rfl) (by kernel_rfl) (fun _ _ _ h => h) (by rfl) ?ry53 (by assumption) ?rr53
                case ry53 => (intro wz hSw; (try dsimp only at hSw); go_simp; try with_reducible rfl)
                (try simp only [Act.put, List.setIfInBounds_toArray, List.set_cons_zero, List.set_cons_succ])
                refine reg_on (i := 1) (d := 38) (v := ?rv54) rfl rfl (by kernel_rfl) (by kernel_rfl) (by kernel_rfl) (fun _ _ _ h => h) (by rfl) ?ry54 (by assumption) ?rr54
                case ry54 => (intro wz hSw; (try dsimp only at hSw); go_simp; try with_reducible rfl)
                (try simp only [Act.put, List.setIfInBounds_toArray, List.set_cons_zero, List.set_cons_succ])
                refine reg_on (i := 2) (d := 39) (v := ?rv55) rfl rfl (by kernel_rfl) (by kernel_rfl) (by kernel_rfl) (fun _ _ _ h => h) (by rfl) ?ry55 (by assumption) ?rr55
                case ry55 => (intro wz hSw; (try dsimp only at hSw); go_simp; try with_reducible rfl)
                (try simp only [Act.put, List.setIfInBounds_toArray, List.set_cons_zero, List.set_cons_succ])
                refine reg_on (i := 3) (d := 40) (v := ?rv56) rfl rfl (by kernel_rfl) (by kernel_rfl) (by kernel_rfl) (fun _ _ _ h => h) (by rfl) ?ry56 (by assumption) ?rr56
                case ry56 => (intro wz hSw; (try dsimp only at hSw); go_simp; try with_reducible rfl)
                (try simp only [Act.put, List.setIfInBounds_toArray, List.set_cons_zero, List.set_cons_succ])
                refine wpAnyH_ready (rs := [4]) (by kernel_rfl) (by simp) ?_
                refine AllReadyH.cons rfl (fun K hK => ?_) AllReadyH.nil
                go_simp
                go_at_call 33; refine (HLC2.out _).mono ?_; rintro e wx ⟨rfl, rfl⟩
                refine hK.out _ _ ?_ (fun hHeld => ?_)
                · ((try dsimp only); (repeat' apply And.intro); all_goals ((repeat (first | (with_reducible refine cell_drew ?_) | (with_reducible refine cell_drewN _ ?_) | ((with_reducible refine cell_alloc ?_ ?_); · first | omega | (simp; done) | (simp; omega) | assumption) | ((with_reducible refine cell_set ?_ ?_); · first | (intro e; injection e; omega) | (intro e; simp at e; done) | (intro e; simp at e; omega)))); first | assumption | (simp; done)))
                clear hK K
                (try simp only [Act.put, List.setIfInBounds_toArray, List.set_cons_zero, List.set_cons_succ])
                refine reg_on (i := 5) (d := 42) (v := ?rv58) rfl rfl (by kernel_rfl) (by kernel_rfl) (by kernel_rfl) (fun _ _ _ h => h) (by rfl) ?ry58 (by assumption) ?rr58
                case ry58 => (intro wz hSw; (try dsimp only at hSw); go_simp; try with_reducible rfl)
                (try simp only [Act.put, List.setIfInBounds_toArray, List.set_cons_zero, List.set_cons_succ])
                refine reg_on (i := 6) (d := 43) (v := ?rv59) rfl rfl (by kernel_rfl) (by kernel_rfl) (by kernel_rfl) (fun _ _ _ h => h) (by rfl) ?ry59 (by assumption) ?rr59
                case ry59 => (intro wz hSw; (try dsimp only at hSw); go_simp; try with_reducible rfl)
                (try simp only [Act.put, List.setIfInBounds_toArray, List.set_cons_zero, List.set_cons_succ])
                refine reg_on (i := 7) (d := 44) (v := ?rv60) rfl rfl (by kernel_rfl) (by kernel_rfl) (by kernel_rfl) (fun _ _ _ h => h) (by rfl) ?ry60 (by assumption) ?rr60
                case ry60 => (intro wz hSw; (try dsimp only at hSw); go_simp; try with_reducible rfl)
                (try simp only [Act.put, List.setIfInBounds_toArray, List.set_cons_zero, List.set_cons_succ])
                refine reg_on (i := 8) (d := 45) (v := ?rv61) rfl rfl (by kernel_rfl) (by kernel_rfl) (by kernel_rfl) (fun _ _ _ h => h) (by rfl) ?ry61 (by assumption) ?rr61
                case ry61 => (intro wz hSw; (try dsimp only at hSw); go_simp; try with_reducible rfl)
                (try simp only [Act.put, List.setIfInBounds_toArray, List.set_cons_zero, List.set_cons_succ])
                refine reg_on (i := 9) (d := 46) (v := ?rv62) rfl rfl (by kernel_rfl) (by kernel_rfl) (by kernel_rfl) (fun _ _ _ h => h) (by rfl) ?ry62 (by assumption) ?rr62
                case ry62 => (intro wz hSw; (try dsimp only at hSw); go_simp; try with_reducible rfl)
                (try simp only [Act.put, List.setIfInBounds_toArray, List.set_cons_zero, List.set_cons_succ])
                refine reg_on (i := 10) (d := 47) (v := ?rv63) rfl rfl (by kernel_rfl) (by kernel_rfl) (by kernel_rfl) (fun _ _ _ h => h) (by rfl) ?ry63 (by assumption) ?rr63
                case ry63 => (intro wz hSw; (try dsimp only at hSw); go_simp; try with_reducible rfl)
                (try simp only [Act.put, List.setIfInBounds_toArray, List.set_cons_zero, List.set_cons_succ])
                refine reg_on (i := 11) (d := 48) (v := ?rv64) rfl rfl (by kernel_rfl) (by kernel_rfl) (by kernel_rfl) (fun _ _ _ h => h) (by rfl) ?ry64 (by assumption) ?rr64
                case ry64 => (intro wz hSw; (try dsimp only at hSw); go_simp; try with_reducible rfl)
                (try simp only [Act.put, List.setIfInBounds_toArray, List.set_cons_zero, List.set_cons_succ])
                refine reg_on (i := 12) (d := 49) (v := ?rv65) rfl rfl (by kernel_rfl) (by kernel_rfl) (by kernel_rfl) (fun _ _ _ h => h) (by rfl) ?ry65 (by assumption) ?rr65
                case ry65 => (intro wz hSw; (try dsimp only at hSw); go_simp; try with_reducible rfl)
                (try simp only [Act.put, List.setIfInBounds_toArray, List.set_cons_zero, List.set_cons_succ])
                refine reg_on (i := 13) (d := 50) (v := ?rv66) rfl rfl (by kernel_rfl) (by kernel_rfl) (by kernel_rfl) (fun _ _ _ h => h) (by rfl) ?ry66 (by assumption) ?rr66
                case ry66 => (intro wz hSw; (try dsimp only at hSw); go_simp; try with_reducible rfl)
                (try simp only [Act.put, List.setIfInBounds_toArray, List.set_cons_zero, List.set_cons_succ])
                refine reg_on (i := 14) (d := 51) (v := ?rv67) rfl rfl (by kernel_rfl) (by kernel_rfl) (by kernel_rfl) (fun _ _ _ h => h) (by rfl) ?ry67 (by assumption) ?rr67
                case ry67 => (intro wz hSw; (try dsimp only at hSw); go_simp; try with_reducible rfl)
                (try simp only [Act.put, List.setIfInBounds_toArray, List.set_cons_zero, List.set_cons_succ])
                refine reg_on (i := 15) (d := 52) (v := ?rv68) rfl rfl (by kernel_rfl) (by kernel_rfl) (by kernel_rfl) (fun _ _ _ h => h) (by rfl) ?ry68 (by assumption) ?rr68
                case ry68 => (intro wz hSw; (try dsimp only at hSw); go_simp; try with_reducible rfl)
                (try simp only [Act.put, List.setIfInBounds_toArray, List.set_cons_zero, List.set_cons_succ])
                refine reg_on (i := 16) (d := 53) (v := ?rv69) rfl rfl (by kernel_rfl) (by kernel_rfl) (by kernel_rfl) (fun _ _ _ h => h) (by rfl) ?ry69 (by assumption) ?rr69
                case ry69 => (intro wz hSw; (try dsimp only at hSw); go_simp; try with_reducible rfl)
                (try simp only [Act.put, List.setIfInBounds_toArray, List.set_cons_zero, List.set_cons_succ])
                refine reg_on (i := 17) (d := 54) (v := ?rv70) rfl rfl (by kernel_rfl) (by kernel_rfl) (by kernel_rfl) (fun _ _ _ h => h) (by rfl) ?ry70 (by assumption) ?rr70
                case ry70 => (intro wz hSw; (try dsimp only at hSw); go_simp; try with_reducible rfl)
                (try simp only [Act.put, List.setIfInBounds_toArray, List.set_cons_zero, List.set_cons_succ])
                refine reg_on (i := 18) (d := 55) (v := ?rv71) rfl rfl (by kernel_rfl) (by kernel_rfl) (by kernel_rfl) (fun _ _ _ h => h) (by rfl) ?ry71 (by assumption) ?rr71
                case ry71 => (intro wz hSw; (try dsimp only at hSw); go_simp; try with_reducible rfl)
                (try simp only [Act.put, List.setIfInBounds_toArray, List.set_cons_zero, List.set_cons_succ])
                refine reg_on (i := 19) (d := 56) (v := ?rv72) rfl rfl (by kernel_rfl) (by kernel_rfl) (by kernel_rfl) (fun _ _ _ h => h) (by rfl) ?ry72 (by assumption) ?rr72
                case ry72 => (intro wz hSw; (try dsimp only at hSw); go_simp; try with_reducible rfl)
                (try simp only [Act.put, List.setIfInBounds_toArray, List.set_cons_zero, List.set_cons_succ])
                refine reg_on (i := 20) (d := 57) (v := ?rv73) rfl rfl (by kernel_rfl) (by kernel_rfl) (by kernel_rfl) (fun _ _ _ h => h) (by rfl) ?ry73 (by assumption) ?rr73
                case ry73 => (intro wz hSw; (try dsimp only at hSw); go_simp; try with_reducible rfl)
                (try simp only [Act.put, List.setIfInBounds_toArray, List.set_cons_zero, List.set_cons_succ])
                refine reg_on (i := 21) (d := 58) (v := ?rv74) rfl rfl (by kernel_rfl) (by kernel_rfl) (by kernel_rfl) (fun _ _ _ h => h) (by rfl) ?ry74 (by assumption) ?rr74
                case ry74 => (intro wz hSw; (try dsimp only at hSw); go_simp; try with_reducible rfl)
                (try simp only [Act.put, List.setIfInBounds_toArray, List.set_cons_zero, List.set_cons_succ])
                refine reg_on (i := 22) (d := 59) (v := ?rv75) rfl rfl (by kernel_rfl) (by kernel_rfl) (by kernel_rfl) (fun _ _ _ h => h) (by rfl) ?ry75 (by assumption) ?rr75
                case ry75 => (intro wz hSw; (try dsimp only at hSw); go_simp; try with_reducible rfl)
                (try simp only [Act.put, List.setIfInBounds_toArray, List.set_cons_zero, List.set_cons_succ])
                refine reg_on (i := 23) (d := 60) (v := ?rv76) rfl rfl (by kernel_rfl) (by kernel_rfl) (by kernel_rfl) (fun _ _ _ h => h) (by rfl) ?ry76 (by assumption) ?rr76
                case ry76 => (intro wz hSw; (try dsimp only at hSw); go_simp; try with_reducible rfl)
                (try simp only [Act.put, List.setIfInBounds_toArray, List.set_cons_zero, List.set_cons_succ])
                refine reg_on (i := 24) (d := 61) (v := ?rv77) rfl rfl (by kernel_rfl) (by kernel_rfl) (by kernel_rfl) (fun _ _ _ h => h) (by rfl) ?ry77 (by assumption) ?rr77
                case ry77 => (intro wz hSw; (try dsimp only at hSw); go_simp; try with_reducible rfl)
                (try simp only [Act.put, List.setIfInBounds_toArray, List.set_cons_zero, List.set_cons_succ])
                refine reg_on (i := 25) (d := 62) (v := ?rv78) rfl rfl (by kernel_rfl) (by kernel_rfl) (by kernel_rfl) (fun _ _ _ h => h) (by rfl) ?ry78 (by assumption) ?rr78
                case ry78 => (intro wz hSw; (try dsimp only at hSw); go_simp; try with_reducible rfl)
                (try simp only [Act.put, List.setIfInBounds_toArray, List.set_cons_zero, List.set_cons_succ])
                refine wpAnyH_done (by kernel_rfl) ?_ _
                go_wp2
                go_roundw
                case rel => exact ⟨j + 1, m', A2, c2, by omega, by go_num, rfl, by rw [HNO.out]; exact HM'.out, by rw [HNO.out]; exact OwnSS.later HSS.out (Below.refl wr.heap.size wr).drew (Nat.le_refl _), HBB.out.drew⟩
                case measure => simp [intOf]; omega
          · have hlti : ¬ 2 * ((j : Int) + 1) ≤ (X : Int) := by omega
            have wm : IntKind.i64.wrap (2 * ((j : Int) + 1)) = 2 * ((j : Int) + 1) := IntWalk.i64_in _ (by omega)
            obtain rfl : j = X / 2 := by omega
            have HEND : Hid (gs1 a l u X k = gsT a l u X k (X / 2)) := by rw [Hid, gs1, show ((X : Int) / 2).toNat = X / 2 by omega]
            have HO2' := Lib.hid hown
            have HBB := Lib.hid hB2
            have HM' := Lib.hid hm'
            clear hown hB2 hm'
            go_wp2
            go_roundw
            case rel => exact ⟨k + 1, m', A2, c2, by omega, by go_num, rfl, by rw [HKS.out, HEND.out]; exact HM'.out, by rw [HKS.out, HEND.out]; exact HO2'.out, HBB.out⟩
            case measure => simp [intOf]; omega
      · obtain rfl : k = n := by omega
        have HO := Lib.hid hown
        have HB := Lib.hid hB
        have HKK : Hid (k = L.length) := HL.out.symm
        have HML := Lib.hid (gsK_length (a := a) (l := l) (u := u) HALL.out k (by rw [HL.out]; exact Nat.le_refl _))
        clear hown hB
        go_wp2
        go_ret2
        exact ⟨A', m, c', rfl, ⟨by rw [← HKK.out, HXX.out]; exact hm, by have := HML.out; omega⟩, by rw [← HKK.out, HXX.out]; exact OwnSS.base HO.out s2, HB2.out.trans (HB.out.mono s2)⟩
end Go.Proofs.YtcocdidkkcjbgaaDoor
