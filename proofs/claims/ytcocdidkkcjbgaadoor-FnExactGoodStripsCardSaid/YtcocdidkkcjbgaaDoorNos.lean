/-
  Contracts: the numbers of all strips up to one, of the program, for values. Conditions: lengths; where the program has laid its errors.
-/
import Derived.Test.YtcocdidkkcjbgaaDoorSv
import Derived.Test.YtcocdidkkcjbgaaDoorStm
import Derived.Test.YtcocdidkkcjbgaaDoorBx
import Derived.Test.YtcocdidkkcjbgaaDoorArrN
import Derived.Test.YtcocdidkkcjbgaaDoorRegA
import Derived.Test.YtcocdidkkcjbgaaDoorLav
namespace Go.Proofs.YtcocdidkkcjbgaaDoor
open Go.RowKit
set_option linter.unusedVariables false
set_option linter.unusedSimpArgs false

def zcN : Array Value := Array.replicate 61 (.int .i64 0)
theorem zeroN (w : World) : (zeroValue 63).run Tryd.prog w = .ok (.agg zcN) w := by kernel_rfl
theorem zcN_ne : ¬ zcN = #[] := by intro h; have := congrArg Array.size h; simp [zcN] at this
theorem zcN_arr : zcN = arrN (fun _ => 0) := zero_arrN

set_option maxHeartbeats 400000 in
theorem valueOfPair_any (a b : Int) (w : World) (ha : 0 ≤ a ∧ a ≤ 31) (hb : 0 ≤ b ∧ b ≤ 31) :
    Calls Tryd.prog 40 #[.int .i64 a, .int .i64 b] w fun e w' => e = .returned (.int .i64 (xr a b)) ∧ w = w' := by
  have hx := xr_bits ha.1 ha.2 hb.1 hb.2
  go_enter Tryd.func40, Tryd.ntmps40
  go_wp2
  go_ret
  exact ⟨ret_int (by first | exact hx | rfl), rfl⟩
theorem leastM_any (A : Option Addr) (n c : Nat) (L : List Int) (w : World) (hr : Rd w 1 A n (intCells L)) (hn : n ≤ 1000000) (_h : 0 < n) :
    Calls Tryd.prog 58 #[.slice A n c] w fun e w' => e = .returned (.int .i64 (mx L)) ∧ w = w' := leastMissing_any A n c L w hr hn

set_option maxRecDepth 100000 in
set_option maxHeartbeats 8000000 in
/-- numbersOfStrips at impl.valueOfPair and impl.leastMissing[int] -/
theorem nosV_any (N : Nat) (l : Int) (u : Bool) (a0 : Addr) (w : World) (hL : LaidE w a0) (h1 : 1 ≤ N) (h2 : N ≤ 60) (h3 : 1 ≤ l) (h4 : l ≤ 60) :
    Calls Tryd.prog 57 #[.int .i64 N, rul l u, .func (.func 40) #[] #[], .func (.func 58) #[] #[]] w fun e w' => e = .returned (.agg (arrN fun j => if j < N + 1 then vS l u j else 0)) ∧ Below w.heap.size w w' := by
  obtain ⟨i0, hi, hz0, hz1, hz2⟩ := info_parts intS_info
  have hng := hL.2.2
  have HV := Lib.hid (fun k (hk : k ≤ 60) => vS_in (l := l) (u := u) hk)
  have zc : zcN = arrN (fun _ => 0) := zcN_arr
  have w3b : Below w.heap.size w (((w.alloc (.cells #[.int .i64 l, .bool u] 61)).alloc (.cells zcN 63)).alloc (.cells zcN 63)) := by (repeat (first | (with_reducible exact Below.refl _ _) | (with_reducible assumption) | (with_reducible refine Below.drew ?_) | ((with_reducible refine balloc ?_ _ ?_); · (first | (simp; done) | (simp; omega) | omega)) | ((with_reducible refine bset ?_ _ ?_); · (first | (simp; done) | (simp; omega) | omega)) | (with_reducible refine bdrewN _ ?_) | ((with_reducible refine bcall ?_ (by assumption) ?_); · (first | (simp; done) | (simp; omega) | omega))))
  have c1 : (((w.alloc (.cells #[.int .i64 l, .bool u] 61)).alloc (.cells zcN 63)).alloc (.cells zcN 63)).cell? ⟨w.heap.size, 0, none⟩ = some (.int .i64 l) := by rw [World.cell?_alloc_lt _ _ _ (by simp; omega), World.cell?_alloc_lt _ _ _ (by simp)]; simp [go_sem]
  have c2 : (((w.alloc (.cells #[.int .i64 l, .bool u] 61)).alloc (.cells zcN 63)).alloc (.cells zcN 63)).cell? ⟨w.heap.size, 1, none⟩ = some (.bool u) := by rw [World.cell?_alloc_lt _ _ _ (by simp; omega), World.cell?_alloc_lt _ _ _ (by simp)]; simp [go_sem]
  have r1 : RowN (((w.alloc (.cells #[.int .i64 l, .bool u] 61)).alloc (.cells zcN 63)).alloc (.cells zcN 63)) (w.heap.size + 1) (fun _ => 0) := by
    rw [zc]
    have h := (RowN.new (w.alloc (.cells #[.int .i64 l, .bool u] 61)) (fun _ => 0)).alloc (.cells (arrN fun _ => 0) 63)
    rwa [show (w.alloc (.cells #[.int .i64 l, .bool u] 61)).heap.size = w.heap.size + 1 by simp] at h
  have r2 : RowN (((w.alloc (.cells #[.int .i64 l, .bool u] 61)).alloc (.cells zcN 63)).alloc (.cells zcN 63)) (w.heap.size + 2) (fun _ => 0) := by
    rw [zc]
    have h := RowN.new ((w.alloc (.cells #[.int .i64 l, .bool u] 61)).alloc (.cells (arrN fun _ => 0) 63)) (fun _ => 0)
    rwa [show ((w.alloc (.cells #[.int .i64 l, .bool u] 61)).alloc (.cells (arrN fun _ => 0) 63)).heap.size = w.heap.size + 2 by simp] at h
  have sz0 : (((w.alloc (.cells #[.int .i64 l, .bool u] 61)).alloc (.cells zcN 63)).alloc (.cells zcN 63)).heap.size = w.heap.size + 3 := by simp
  have C1 := Lib.hid c1
  have C2 := Lib.hid c2
  have R1 := Lib.hid r1
  have R2 := Lib.hid (r2.congr (f' := fun j => if j < 1 then vS l u j else 0) (fun j hj => by
    by_cases e : j < 1
    · rw [if_pos e, show j = 0 by omega, vS_0]
    · rw [if_neg e]))
  have SZ0 := Lib.hid sz0
  have HL0 := Lib.hid (hL.later w3b hng (by rw [sz0]; omega))
  clear c1 c2 r1 r2 sz0 zc hL
  have hzf := fun wx => zeroN wx
  have hze := zcN_ne
  go_enter Tryd.func57, Tryd.ntmps57
  go_wp2
  clear hzf hze
  generalize ((w.alloc (.cells #[.int .i64 l, .bool u] 61)).alloc (.cells zcN 63)).alloc (.cells zcN 63) = W1 at *
  have sz := SZ0.out
  go_loopw [10] (fun i wr => ∃ n : Nat, 1 ≤ n ∧ n ≤ N + 1 ∧ i = .int .i64 n ∧ RowN wr (w.heap.size + 2) (fun j => if j < n then vS l u j else 0) ∧ RowN wr (w.heap.size + 1) (fun _ => 0) ∧ Below (w.heap.size + 1) W1 wr ∧ w.heap.size + 3 ≤ wr.heap.size) (fun i _ => N + 1 - (intOf i).toNat)
  case atStart => exact ⟨1, by omega, by omega, rfl, R2.out, R1.out, Below.refl _ _, by omega⟩
  case round =>
    obtain ⟨n, hn1, hnN, rfl, hrow, hres, hB, hsz⟩ := hrel
    have e1 := (hB.cell (p := ⟨w.heap.size, 0, none⟩) (by simp)).trans C1.out
    have e2 := (hB.cell (p := ⟨w.heap.size, 1, none⟩) (by simp)).trans C2.out
    have HLr := Lib.hid (HL0.out.later hB (by omega) (by omega))
    by_cases hlt : n ≤ N
    · have hlti : (n : Int) ≤ (N : Int) := by omega
      have HROW := Lib.hid hrow
      have HRES := Lib.hid hres
      have HB := Lib.hid hB
      have HSM := Lib.hid (fun wx hx => stripMoves_any n l u a0 wx hx (by omega) (by omega) h3 h4)
      have hz0' : w.heap.size < wr.heap.size := by omega
      clear hrow hres hB
      go_wp2_with fail
      refine (HSM.out _ HLr.out).mono ?_; rintro e w2 ⟨A, M, c, rfl, own2, hb2⟩
      have s2 := hb2.size
      have HROW2 := Lib.hid (HROW.out.below hb2 (by omega))
      have HRES2 := Lib.hid (HRES.out.below hb2 (by omega))
      have HB2 := Lib.hid (HB.out.trans (hb2.mono (by omega)))
      have hlen : (smL n l u).length = M := by have := own2.1; rw [length_intCells] at this; omega
      have hM30 : M ≤ 30 := by have := length_smL n l u (by omega); omega
      have hr := Rd.of_own own2
      have HLEN := Lib.hid hlen
      have HTAKE : Hid (∀ k (hk : k < (smL n l u).length), (pairsL xr l u (vS l u) n).take (k + 1) = (pairsL xr l u (vS l u) n).take k ++ [xr (vS l u ((smL n l u)[k]).toNat) (vS l u (n - ((smL n l u)[k]).toNat))]) := fun k hk => pairsL_take xr l u (vS l u) n hk
      have HIN : Hid (∀ k (hk : k < (smL n l u).length), 1 ≤ (smL n l u)[k] ∧ 2 * (smL n l u)[k] ≤ n) := fun k hk => smL_in (List.getElem_mem hk)
      have HEQ := Lib.hid (sV_eq (pr := xr) (ch := mx) (l := l) (u := u) (n := n) (by omega))
      have HPL : Hid ((pairsL xr l u (vS l u) n).length = M) := by rw [Hid, ← hlen]; simp [pairsL]
      clear e1 e2 hb2 own2 hlen
      obtain ⟨wo, hwo⟩ : ∃ wo, wo = w2 := ⟨_, rfl⟩
      subst hwo
      go_wp2
      go_loopw [11, 23] (fun v i wr => ∃ (k : Nat) (A' : Option Addr) (c' : Nat), k ≤ M ∧ i = .int .i64 k ∧ v = .slice A' k c' ∧ wr.ownsRow wo.heap.size 3 1 (.slice A' k c') k (intCells ((pairsL xr l u (vS l u) n).take k)) ∧ Below wo.heap.size wo wr) (fun _ i _ => M - (intOf i).toNat)
      case atStart => exact ⟨0, none, 0, by omega, rfl, rfl, World.ownsRow_nil _ _ _ _, Below.refl _ _⟩
      case round =>
        obtain ⟨k, A', c', hk, rfl, rfl, hown, hB⟩ := hrel
        have sB := hB.size
        by_cases hlk : k < M
        · obtain ⟨b, o, rfl, hbl, hx, p0⟩ := (hr.later hB (Nat.le_refl _)).num hlk
          have hin := HIN.out k hx
          have HT := Lib.hid (HTAKE.out k hx)
          generalize (smL n l u)[k] = t at *
          obtain ⟨T, rfl⟩ : ∃ T : Nat, t = T := ⟨t.toNat, by omega⟩
          obtain ⟨d, hd⟩ : ∃ d : Nat, d + T = n := ⟨n - T, by omega⟩
          have HT2 : Hid ((pairsL xr l u (vS l u) n).take (k + 1) = (pairsL xr l u (vS l u) n).take k ++ [xr (vS l u T) (vS l u d)]) := by
            have h := HT.out
            rw [Int.toNat_natCast, show n - T = d by omega] at h
            exact h
          have hrow := HROW2.out.below hB (by omega)
          have q1 := hrow.cell (k := T) (by omega)
          rw [if_pos (by omega)] at q1
          have q2 := hrow.cell (k := d) (by omega)
          rw [if_pos (by omega)] at q2
          have pw1 := HROW2.out.cell (k := T) (by omega)
          rw [if_pos (by omega)] at pw1
          have pw2 := HROW2.out.cell (k := d) (by omega)
          rw [if_pos (by omega)] at pw2
          have v1 := HV.out T (by omega)
          have v2 := HV.out d (by omega)
          have HPR := Lib.hid (fun wx => valueOfPair_any (vS l u T) (vS l u d) wx v1 v2)
          have y1 : (T : Int) < 61 := by omega
          have y2 : (d : Int) < 61 := by omega
          have y3 : T < 61 := by omega
          have y4 : d < 61 := by omega
          have y5 : (0 : Int) ≤ (T : Int) := by omega
          have y6 : (0 : Int) ≤ (d : Int) := by omega
          have wsub2 : (n : Int) - (T : Int) = (d : Int) := by omega
          have wsub : IntKind.i64.wrap (d : Int) = (d : Int) := IntWalk.i64_in _ (by omega)
          have hc3 : k + 1 ≤ maxLen := by simp only [maxLen]; omega
          have hgl : w.heap.size + 2 < wo.heap.size := by omega
          generalize vS l u T = a1 at *
          generalize vS l u d = a2 at *
          generalize hq : xr a1 a2 = q at *
          have HD := Lib.hid hd
          have HIN2 := Lib.hid hin
          clear hrow v1 v2 hq hd hin HT
          go_wp2
          refine wp_region_held_drew (S := (fun w' => w'.cell? ⟨w.heap.size + 2, T, none⟩ = some (.int .i64 a1) ∧ w'.cell? ⟨w.heap.size + 2, d, none⟩ = some (.int .i64 a2))) (by kernel_rfl) ?_ (fun hHeld => ?_)
          · ((try dsimp only); (repeat' apply And.intro); all_goals ((repeat (first | (with_reducible refine cell_drew ?_) | (with_reducible refine cell_drewN _ ?_) | ((with_reducible refine cell_alloc ?_ ?_); · first | omega | (simp; done) | (simp; omega) | assumption) | ((with_reducible refine cell_set ?_ ?_); · first | (intro e; injection e; omega) | (intro e; simp at e; done) | (intro e; simp at e; omega)))); first | assumption | (simp; done)))
          refine reg_on (i := 0) (d := 27) (v := ?rv1) rfl rfl (by kernel_rfl) (by kernel_rfl) (by kernel_rfl) (fun _ _ _ h => h) (by rfl) ?ry1 (by assumption) ?rr1
          case ry1 => (intro wz hSw; (try dsimp only at hSw); go_simp; try with_reducible rfl)
          (try simp only [Act.put, List.setIfInBounds_toArray, List.set_cons_zero, List.set_cons_succ])
          refine reg_on (i := 1) (d := 28) (v := ?rv2) rfl rfl (by kernel_rfl) (by kernel_rfl) (by kernel_rfl) (fun _ _ _ h => h) (by rfl) ?ry2 (by assumption) ?rr2
          case ry2 => (intro wz hSw; (try dsimp only at hSw); go_simp; try with_reducible rfl)
          (try simp only [Act.put, List.setIfInBounds_toArray, List.set_cons_zero, List.set_cons_succ])
          refine reg_on (i := 2) (d := 29) (v := ?rv3) rfl rfl (by kernel_rfl) (by kernel_rfl) (by kernel_rfl) (fun _ _ _ h => h) (by rfl) ?ry3 (by assumption) ?rr3
          case ry3 => (intro wz hSw; (try dsimp only at hSw); go_simp; try with_reducible rfl)
          (try simp only [Act.put, List.setIfInBounds_toArray, List.set_cons_zero, List.set_cons_succ])
          refine reg_on (i := 3) (d := 30) (v := ?rv4) rfl rfl (by kernel_rfl) (by kernel_rfl) (by kernel_rfl) (fun _ _ _ h => h) (by rfl) ?ry4 (by assumption) ?rr4
          case ry4 => (intro wz hSw; (try dsimp only at hSw); go_simp; try with_reducible rfl)
          (try simp only [Act.put, List.setIfInBounds_toArray, List.set_cons_zero, List.set_cons_succ])
          refine reg_on (i := 4) (d := 31) (v := ?rv5) rfl rfl (by kernel_rfl) (by kernel_rfl) (by kernel_rfl) (fun _ _ _ h => h) (by rfl) ?ry5 (by assumption) ?rr5
          case ry5 => (intro wz hSw; (try dsimp only at hSw); go_simp; try with_reducible rfl)
          (try simp only [Act.put, List.setIfInBounds_toArray, List.set_cons_zero, List.set_cons_succ])
          refine reg_on (i := 5) (d := 32) (v := ?rv6) rfl rfl (by kernel_rfl) (by kernel_rfl) (by kernel_rfl) (fun _ _ _ h => h) (by rfl) ?ry6 (by assumption) ?rr6
          case ry6 => (intro wz hSw; (try dsimp only at hSw); go_simp; try with_reducible rfl)
          (try simp only [Act.put, List.setIfInBounds_toArray, List.set_cons_zero, List.set_cons_succ])
          refine reg_on (i := 6) (d := 33) (v := ?rv7) rfl rfl (by kernel_rfl) (by kernel_rfl) (by kernel_rfl) (fun _ _ _ h => h) (by rfl) ?ry7 (by assumption) ?rr7
          case ry7 => (intro wz hSw; (try dsimp only at hSw); go_simp; try with_reducible rfl)
          (try simp only [Act.put, List.setIfInBounds_toArray, List.set_cons_zero, List.set_cons_succ])
          refine reg_on (i := 7) (d := 34) (v := ?rv8) rfl rfl (by kernel_rfl) (by kernel_rfl) (by kernel_rfl) (fun _ _ _ h => h) (by rfl) ?ry8 (by assumption) ?rr8
          case ry8 => (intro wz hSw; (try dsimp only at hSw); go_simp; try with_reducible rfl)
          (try simp only [Act.put, List.setIfInBounds_toArray, List.set_cons_zero, List.set_cons_succ])
          refine reg_on (i := 8) (d := 35) (v := ?rv9) rfl rfl (by kernel_rfl) (by kernel_rfl) (by kernel_rfl) (fun _ _ _ h => h) (by rfl) ?ry9 (by assumption) ?rr9
          case ry9 => (intro wz hSw; (try dsimp only at hSw); go_simp; try with_reducible rfl)
          (try simp only [Act.put, List.setIfInBounds_toArray, List.set_cons_zero, List.set_cons_succ])
          refine reg_on (i := 9) (d := 36) (v := ?rv10) rfl rfl (by kernel_rfl) (by kernel_rfl) (by kernel_rfl) (fun _ _ _ h => h) (by rfl) ?ry10 (by assumption) ?rr10
          case ry10 => (intro wz hSw; (try dsimp only at hSw); go_simp; try with_reducible rfl)
          (try simp only [Act.put, List.setIfInBounds_toArray, List.set_cons_zero, List.set_cons_succ])
          refine wpAnyH_ready (rs := [10]) (by kernel_rfl) (by simp) ?_
          refine AllReadyH.cons rfl (fun K hK => ?_) AllReadyH.nil
          go_simp
          go_at_call 40; refine (HPR.out _).mono ?_; rintro e wx ⟨rfl, rfl⟩
          refine hK.out _ _ ?_ (fun hHeld => ?_)
          · ((try dsimp only); (repeat' apply And.intro); all_goals ((repeat (first | (with_reducible refine cell_drew ?_) | (with_reducible refine cell_drewN _ ?_) | ((with_reducible refine cell_alloc ?_ ?_); · first | omega | (simp; done) | (simp; omega) | assumption) | ((with_reducible refine cell_set ?_ ?_); · first | (intro e; injection e; omega) | (intro e; simp at e; done) | (intro e; simp at e; omega)))); first | assumption | (simp; done)))
          clear hK K
          (try simp only [Act.put, List.setIfInBounds_toArray, List.set_cons_zero, List.set_cons_succ])
          refine wpAnyH_ready (rs := [11]) (by kernel_rfl) (by simp) ?_
          refine AllReadyH.cons rfl (fun K hK => ?_) AllReadyH.nil
          go_simp
          refine hK.out _ _ ?_ (fun hHeld => ?_)
          · ((try dsimp only); (repeat' apply And.intro); all_goals ((repeat (first | (with_reducible refine cell_drew ?_) | (with_reducible refine cell_drewN _ ?_) | ((with_reducible refine cell_alloc ?_ ?_); · first | omega | (simp; done) | (simp; omega) | assumption) | ((with_reducible refine cell_set ?_ ?_); · first | (intro e; injection e; omega) | (intro e; simp at e; done) | (intro e; simp at e; omega)))); first | assumption | (simp; done)))
          clear hK K
          (try simp only [Act.put, List.setIfInBounds_toArray, List.set_cons_zero, List.set_cons_succ])
          refine wpAnyH_ready (rs := [12]) (by kernel_rfl) (by simp) ?_
          refine AllReadyH.cons rfl (fun K hK => ?_) AllReadyH.nil
          refine step_append_own rfl (.tmp 27) (.tmp 38) 33 rfl wo.heap.size 3 i0 (.int .i64 0) 1 8 Tryd.underlying33 hi hz0 hz1 hz2 rfl (by decide) _ _ _ rfl (hown.alloc (.cells #[.int .i64 q] 3)).drew ⟨wr.heap.size, 0, none⟩ 1 1 [.int .i64 q] rfl rfl (new1 wr 3 (.int .i64 q)) (int_oneCell [q]) hc3 (by omega) (by show wo.heap.size ≤ (wr.alloc _).heap.size; simp; omega) ?_; intro v' w4 hown' hgrow _; have hb4 := bgrow (hB.alloc sB (.cells #[.int .i64 q] 3)).drew (hown.alloc (.cells #[.int .i64 q] 3)).drew hgrow (by show wo.heap.size ≤ (wr.alloc _).heap.size; simp; omega); have d1 := (hb4.cell (p := ⟨w.heap.size + 2, T, none⟩) hgl).trans pw1; have d2 := (hb4.cell (p := ⟨w.heap.size + 2, d, none⟩) hgl).trans pw2
          refine hK.out _ _ ?_ (fun hHeld => ?_)
          · ((try dsimp only); (repeat' apply And.intro); all_goals ((repeat (first | (with_reducible refine cell_drew ?_) | (with_reducible refine cell_drewN _ ?_) | ((with_reducible refine cell_alloc ?_ ?_); · first | omega | (simp; done) | (simp; omega) | assumption) | ((with_reducible refine cell_set ?_ ?_); · first | (intro e; injection e; omega) | (intro e; simp at e; done) | (intro e; simp at e; omega)))); first | assumption | (simp; done)))
          clear hK K
          (try simp only [Act.put, List.setIfInBounds_toArray, List.set_cons_zero, List.set_cons_succ])
          refine reg_on (i := 13) (d := 11) (v := ?rv14) rfl rfl (by kernel_rfl) (by kernel_rfl) (by kernel_rfl) (fun _ _ _ h => h) (by rfl) ?ry14 (by assumption) ?rr14
          case ry14 => (intro wz hSw; (try dsimp only at hSw); go_simp; try with_reducible rfl)
          (try simp only [Act.put, List.setIfInBounds_toArray, List.set_cons_zero, List.set_cons_succ])
          refine wpAnyH_done (by kernel_rfl) ?_ _
          obtain ⟨A2, c2, rfl⟩ := own_slice hown'
          have HO4 := Lib.hid hown'
          have HB4 := Lib.hid hb4
          clear hown' hb4 hgrow hown hB d1 d2 q1 q2 pw1 pw2
          go_wp2
          go_roundw
          case rel => exact ⟨k + 1, A2, c2, by omega, by go_num, rfl, by rw [HT2.out, intCells_append]; exact HO4.out, HB4.out⟩
          case measure => simp [intOf]; omega
        · obtain rfl : k = M := by omega
          have HFULL : Hid ((pairsL xr l u (vS l u) n).take k = pairsL xr l u (vS l u) n) := List.take_of_length_le (by rw [HPL.out]; exact Nat.le_refl _)
          rw [HFULL.out] at hown
          have hrow := HROW2.out.below hB (by omega)
          have cn := hrow.cell (k := n) (by omega)
          have fn := hrow.free n
          have HS2 := Lib.hid ((hrow.set n (mx (pairsL xr l u (vS l u) n))).congr (f' := fun j => if j < n + 1 then vS l u j else 0) (fun j hj => by
            by_cases e : j = n
            · rw [if_pos e, if_pos (by omega), e]; exact HEQ.out.symm
            · by_cases e2 : j < n
              · rw [if_neg e, if_pos e2, if_pos (by omega)]
              · rw [if_neg e, if_neg e2, if_neg (by omega)]))
          have HRES3 := Lib.hid ((HRES2.out.below hB (by omega)).other (q := w.heap.size + 2) (k := n) (v := .int .i64 (mx (pairsL xr l u (vS l u) n))) (by omega))
          have HB3 := Lib.hid (bset (p := ⟨w.heap.size + 2, n, none⟩) (by show w.heap.size + 1 ≤ w.heap.size + 2; omega) (.int .i64 (mx (pairsL xr l u (vS l u) n))) (HB2.out.trans (hB.mono (by omega))))
          have HCH := Lib.hid (fun wx hx (h0 : 0 < k) => leastM_any A' k c' (pairsL xr l u (vS l u) n) wx hx (by omega) h0)
          have HRDP := Lib.hid (Rd.of_own hown)
          have hn61 : (n : Int) < 61 := by omega
          have hn61n : n < 61 := by omega
          have szr : w.heap.size + 3 ≤ wr.heap.size := by omega
          by_cases hk0 : 0 < k
          · have dk : decide ((0 : Int) < (k : Int)) = true := decide_eq_true (by omega)
            generalize mx (pairsL xr l u (vS l u) n) = V at *
            clear hown hrow hB
            go_wp2_with fail
            refine (HCH.out _ HRDP.out hk0).mono ?_; rintro e wx ⟨rfl, rfl⟩
            go_wp2
            go_roundw
            case rel => exact ⟨n + 1, by omega, by omega, by go_num, HS2.out, HRES3.out, HB3.out, by simp; omega⟩
            case measure => simp [intOf]; omega
          · have dk : decide ((0 : Int) < (k : Int)) = false := decide_eq_false (by omega)
            have hnil : pairsL xr l u (vS l u) n = [] := List.eq_nil_of_length_eq_zero (by rw [HPL.out]; omega)
            have HS3 : Hid (RowN wr (w.heap.size + 2) (fun j => if j < n + 1 then vS l u j else 0)) := hrow.congr (fun j hj => by
              by_cases e2 : j < n
              · rw [if_pos e2, if_pos (by omega)]
              · by_cases e : j = n
                · subst e
                  rw [if_neg e2, if_pos (by omega)]
                  show _ = sV xr mx l u _
                  rw [HEQ.out, hnil]
                  rfl
                · rw [if_neg e2, if_neg (by omega)])
            have HRES4 := Lib.hid (HRES2.out.below hB (by omega))
            have HB4 := Lib.hid (HB2.out.trans (hB.mono (by omega)))
            have hk00 : k = 0 := by omega
            subst hk00
            clear hown hrow hB hnil HS2 HRES3 HB3 HCH HRDP cn fn hk0
            go_wp2
            go_roundw
            case rel => exact ⟨n + 1, by omega, by omega, by go_num, HS3.out, HRES4.out, HB4.out, by omega⟩
            case measure => simp [intOf]; omega
    · obtain rfl : n = N + 1 := by omega
      have hlti : ¬ (((N + 1 : Nat) : Int)) ≤ (N : Int) := by omega
      have HSET := Lib.hid (setRow_heap wr (w.heap.size + 1) _ (arrN fun j => if j < N + 1 then vS l u j else 0) _ _ hres)
      have HBR := Lib.hid (w3b.trans ((below_setRowN hB (Nat.le_refl _) (arrN fun j => if j < N + 1 then vS l u j else 0)).mono (by omega)))
      have H1 := Lib.hid hres
      have H3 := Lib.hid hrow
      clear hres hrow hB e1 e2
      go_wp2_with (first | refine wpList_load_row rfl 63 (.tmp 9) rfl (w.heap.size + 2) rfl _ (arrN fun j => if j < N + 1 then vS l u j else 0) _ _ H3.out Tryd.underlying63 rfl (by rw [size_arrN]; kernel_rfl) ?_ | refine wpList_store_row rfl 63 (.tmp 8) (.tmp 49) rfl (w.heap.size + 1) (arrN fun j => if j < N + 1 then vS l u j else 0) rfl rfl _ _ H1.out (by rw [size_arrN]; kernel_rfl) (by rw [size_arrN, size_arrN]) (oneCell_arrN _) ?_)
      refine bodyPost_ret (v := .agg (arrN fun j => if j < N + 1 then vS l u j else 0)) (results_cell_row Tryd.results57 _ _ (w.heap.size + 1) _ _ _ _ rfl HSET.out Tryd.underlying63 rfl (by rw [size_arrN]; kernel_rfl)) rfl ⟨rfl, HBR.out⟩


end Go.Proofs.YtcocdidkkcjbgaaDoor
