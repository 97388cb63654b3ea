/-
  Contract: the values of all strips up to one, of the model. Condition: lengths.
-/
import Derived.Test.YtcocdidkkcjbgaaDoorSv
import Derived.Test.YtcocdidkkcjbgaaDoorStm
import Derived.Test.YtcocdidkkcjbgaaDoorBx
import Derived.StillTailTactics
import Derived.Test.YtcocdidkkcjbgaaDoorRegA
import Derived.Laws.OwnMore
namespace Go.Proofs.YtcocdidkkcjbgaaDoor
open Go.RowKit
set_option linter.unusedVariables false
set_option linter.unusedSimpArgs false

theorem own_setN {w : World} {B e z n g o : Nat} {v u : Value} {xs : List Value} (h : w.ownsRow B e z v n xs) (hg : g < B) : (w.setCell ⟨g, o, none⟩ u).ownsRow B e z v n xs := by
  refine h.kept (w' := w.setCell ⟨g, o, none⟩ u) (row := some g) ⟨rfl, rfl, rfl, by simp, fun i hi hr => ?_⟩ ?_
  · have hne : i ≠ g := fun e => hr (by rw [e])
    simp only [World.setCell, Array.getElem?_modify]
    rw [if_neg (fun e => hne e.symm)]
  · rcases hv : v.ownBlock with _ | q
    · exact .inl rfl
    · refine .inr fun e => ?_
      have := h.lt q hv
      simp only [Option.some.injEq] at e
      omega

def tabF (f : Nat → Int) (N : Nat) : List Int := (List.range (N + 1)).map f
theorem length_tabF (f : Nat → Int) (N : Nat) : (tabF f N).length = N + 1 := by simp [tabF]
theorem tabF_at (f : Nat → Int) {N k : Nat} (h : k ≤ N) : (tabF f N)[k]? = some (f k) := by simp [tabF, show k < N + 1 by omega]
theorem tabF_cell (f : Nat → Int) {N k : Nat} (h : k ≤ N) : (intCells (tabF f N))[k]? = some (.int .i64 (f k)) := by
  simp only [intCells, List.getElem?_map, tabF_at f h]; rfl
theorem tabF_congr {f g : Nat → Int} {N : Nat} (h : ∀ k, k ≤ N → f k = g k) : tabF f N = tabF g N := by
  unfold tabF
  refine List.map_congr_left fun k hk => h k (by have := List.mem_range.1 hk; omega)
theorem tabF_set (f : Nat → Int) (N k : Nat) (v : Int) : (tabF f N).set k v = tabF (fun j => if j = k then v else f j) N := by
  apply List.ext_getElem?
  intro j
  by_cases hj : j ≤ N
  · rw [tabF_at _ hj]
    by_cases e : k = j
    · subst e
      rw [List.getElem?_set_self (by rw [length_tabF]; omega), if_pos rfl]
    · rw [List.getElem?_set_ne e, tabF_at f hj, if_neg (fun h => e h.symm)]
  · rw [List.getElem?_eq_none (by rw [List.length_set, length_tabF]; omega), List.getElem?_eq_none (by rw [length_tabF]; omega)]
theorem xr_bits {a b : Int} (ha : 0 ≤ a) (ha2 : a ≤ 31) (hb : 0 ≤ b) (hb2 : b ≤ 31) : bits .xor .i64 a b = xr a b := by
  obtain ⟨p, rfl⟩ := Int.eq_ofNat_of_zero_le ha
  obtain ⟨q, rfl⟩ := Int.eq_ofNat_of_zero_le hb
  rw [bx_i64 _ _ (by omega) (by omega)]
  simp [xr]
/-- the pairs of the places up to k -/
def prT (l : Int) (u : Bool) (n k : Nat) : List Int := (smT n l u k).map fun t => xr (vS l u t.toNat) (vS l u (n - t.toNat))
theorem length_prT (l : Int) (u : Bool) (n k : Nat) : (prT l u n k).length ≤ k := by unfold prT; rw [List.length_map]; exact length_smT _ _ _ _
theorem prT_end {l : Int} {u : Bool} {n k : Nat} (h : k = n / 2) : prT l u n k = pairsL xr l u (vS l u) n := by
  unfold prT pairsL smL
  rw [h, show ((n : Int) / 2).toNat = n / 2 by omega]

set_option maxRecDepth 100000 in
set_option maxHeartbeats 8000000 in
theorem laValues_any (N : Nat) (l : Int) (u : Bool) (w : World) (h1 : 1 ≤ N) (h2 : N ≤ 60) (h3 : 1 ≤ l) (h4 : l ≤ 60) :
    Calls Tryd.prog 31 #[.int .i64 N, .int .i64 l, .bool u] w fun e w' => ∃ g, e = .returned (.slice (some ⟨g, 0, none⟩) (N + 1) (N + 1)) ∧ w'.ownsRow w.heap.size 3 1 (.slice (some ⟨g, 0, none⟩) (N + 1) (N + 1)) (N + 1) (intCells (tabF (vS l u) N)) ∧ Below w.heap.size w w' := by
  obtain ⟨i0, hi, hz0, hz1, hz2⟩ := info_parts intS_info
  have HV := Lib.hid (fun k (hk : k ≤ 60) => vS_in (l := l) (u := u) hk)
  go_enter Tryd.func31, Tryd.ntmps31
  go_wp2_with (at_make; refine wpList_make_full _ rfl (.tmp 12) (.tmp 12) 33 rfl w.heap.size 3 i0 (.int .i64 0) 1 Tryd.underlying33 hi hz0 hz1 .i64 .i64 _ _ (N + 1) rfl rfl (by omega) (by omega) ?b2 ?b3 (Nat.le_refl _) ?_)
  case b2 => rw [hz2]; omega
  case b3 => simp only [maxLen]; omega
  intro w1 hown hgrow
  have hb1 : Below w.heap.size w w1 := (Below.refl _ _).grown hgrow (Nat.le_refl _) (fun k hk => by cases hk)
  have e1 : (madeCells #[Value.int IntKind.i64 0] (N + 1)).toList = intCells (tabF (fun j => if j < 1 then vS l u j else 0) N) := by
    rw [toList_madeCells_one]
    apply List.ext_getElem?
    intro j
    by_cases hj : j ≤ N
    · rw [tabF_cell _ hj, List.getElem?_replicate, if_pos (by omega)]
      by_cases h0 : j < 1
      · rw [if_pos h0, show j = 0 by omega, vS_0]
      · rw [if_neg h0]
    · rw [List.getElem?_eq_none (by simp; omega), List.getElem?_eq_none (by rw [length_intCells, length_tabF]; omega)]
  rw [e1] at hown
  have HO1 := Lib.hid hown
  have HB1 := Lib.hid hb1
  clear hgrow hown e1 hb1
  go_wp2
  go_loopw [8] (fun i wr => ∃ n : Nat, 1 ≤ n ∧ n ≤ N + 1 ∧ i = .int .i64 n ∧ wr.ownsRow w.heap.size 3 1 (.slice (some ⟨w.heap.size, 0, none⟩) (N + 1) (N + 1)) (N + 1) (intCells (tabF (fun j => if j < n then vS l u j else 0) N)) ∧ Below w.heap.size w wr) (fun i _ => N + 1 - (intOf i).toNat)
  case atStart => exact ⟨1, by omega, by omega, rfl, HO1.out, HB1.out⟩
  case round =>
    obtain ⟨n, hn1, hnN, rfl, hown, hB⟩ := hrel
    have sB := hB.size
    have hgl := (hown.lt w.heap.size (by simp [Value.ownBlock])).2
    by_cases hlt : n ≤ N
    · have hlti : (n : Int) ≤ (N : Int) := by omega
      have HO := Lib.hid hown
      have HB := Lib.hid hB
      clear hown hB HO1 HB1
      obtain ⟨wo, hwo⟩ : ∃ wo, wo = wr := ⟨_, rfl⟩
      subst hwo
      go_wp2
      go_loopw [9, 10] (fun v i wr => ∃ (k m : Nat) (A : Option Addr) (c : Nat), 2 * k ≤ n ∧ i = .int .i64 ((k : Int) + 1) ∧ v = .slice A m c ∧ wr.ownsRow wo.heap.size 3 1 (.slice A m c) m (intCells (prT l u n k)) ∧ Below wo.heap.size wo wr) (fun _ i _ => 62 - (intOf i).toNat)
      case atStart => exact ⟨0, 0, none, 0, by omega, rfl, rfl, World.ownsRow_nil _ _ _ _, Below.refl _ _⟩
      case round =>
        obtain ⟨k, m, A, c, hk, rfl, rfl, hown, hB⟩ := hrel
        have sB2 := hB.size
        have hm60 : m ≤ 60 := by have h := hown.1; rw [length_intCells] at h; have := length_prT l u n k; omega
        by_cases hlk : 2 * (k + 1) ≤ n
        · have hlki : 2 * ((k : Int) + 1) ≤ (n : Int) := by omega
          have hcl := laCan_any n ((k : Int) + 1) l u wr (by omega) (by omega) h3 h4 (by omega) (by omega)
          cases hc : canS n ((k : Int) + 1) l u
          · have HY : Hid (prT l u n (k + 1) = prT l u n k) := by rw [Hid, prT, smT_no hc]; rfl
            rw [hc] at hcl
            clear hc
            have HC := Lib.hid hcl
            clear hcl
            go_wp2_with fail
            refine HC.out.mono ?_; rintro e wx ⟨rfl, rfl⟩
            go_wp2
            go_roundw
            case rel => exact ⟨k + 1, m, A, c, by omega, by go_num, rfl, by rw [HY.out]; exact hown, hB⟩
            case measure => simp [intOf]; omega
          · have hd : ∃ d : Nat, d + (k + 1) = n := ⟨n - (k + 1), by omega⟩
            obtain ⟨d, hd⟩ := hd
            have HY : Hid (prT l u n (k + 1) = prT l u n k ++ [xr (vS l u (k + 1)) (vS l u d)]) := by
              rw [Hid, prT, smT_yes hc, List.map_append]
              simp only [List.map_cons, List.map_nil]
              rw [show ((k : Int) + 1).toNat = k + 1 by omega, show n - (k + 1) = d by omega]
              rfl
            rw [hc] at hcl
            clear hc
            have HC := Lib.hid hcl
            have hown1 := own_later HO.out hB (Nat.le_refl _)
            have p1 := hown1.cellAt (k + 1) (by omega)
            rw [tabF_cell _ (by omega), if_pos (by omega)] at p1
            have p2 := hown1.cellAt d (by omega)
            rw [tabF_cell _ (by omega), if_pos (by omega)] at p2
            obtain ⟨v1, v2⟩ := HV.out (k + 1) (by omega)
            obtain ⟨v3, v4⟩ := HV.out d (by omega)
            have X1 := xr_bits v1 v2 v3 v4
            have wsub : IntKind.i64.wrap (d : Int) = (d : Int) := IntWalk.i64_in _ (by omega)
            have wsub2 : (n : Int) - ((k : Int) + 1) = (d : Int) := by omega
            have y1 : (k : Int) + 1 < (N : Int) + 1 := by omega
            have y2 : (d : Int) < (N : Int) + 1 := by omega
            have y3 : k + 1 < N + 1 := by omega
            have y5 : (0 : Int) ≤ (k : Int) + 1 := by omega
            have y6 : (0 : Int) ≤ (d : Int) := by omega
            have y7 : ((k : Int) + 1).toNat = k + 1 := by omega
            have y4 : d < N + 1 := by omega
            have hd60 : (d : Int) ≤ 60 := by omega
            have hc3 : m + 1 ≤ maxLen := by simp only [maxLen]; omega
            have pw1 := HO.out.cellAt (k + 1) (by omega)
            rw [tabF_cell _ (by omega), if_pos (by omega)] at pw1
            have pw2 := HO.out.cellAt d (by omega)
            rw [tabF_cell _ (by omega), if_pos (by omega)] at pw2
            generalize vS l u (k + 1) = a1 at *
            generalize vS l u d = a2 at *
            generalize hq : xr a1 a2 = q at *
            have HD := Lib.hid hd
            clear hcl hown1 v1 v2 v3 v4 hq hd
            go_wp2_with fail
            refine HC.out.mono ?_; rintro e wx ⟨rfl, rfl⟩
            go_wp2
            refine wp_region_held_drew (S := (fun w' => w'.cell? ⟨w.heap.size, k + 1, none⟩ = some (.int .i64 a1) ∧ w'.cell? ⟨w.heap.size, d, none⟩ = some (.int .i64 a2))) (by kernel_rfl) ?_ (fun hHeld => ?_)
            · ((try dsimp only); (repeat' apply And.intro); all_goals ((repeat (first | (with_reducible refine cell_drew ?_) | (with_reducible refine cell_drewN _ ?_) | ((with_reducible refine cell_alloc ?_ ?_); · first | omega | (simp; done) | (simp; omega) | assumption) | ((with_reducible refine cell_set ?_ ?_); · first | (intro e; injection e; omega) | (intro e; simp at e; done) | (intro e; simp at e; omega)))); first | assumption | (simp; done)))
            refine reg_on (i := 0) (d := 30) (v := ?rv1) rfl rfl (by kernel_rfl) (by kernel_rfl) (by kernel_rfl) (fun _ _ _ h => h) (by rfl) ?ry1 (by assumption) ?rr1
            case ry1 => (intro wz hSw; (try dsimp only at hSw); go_simp; try with_reducible rfl)
            (try simp only [Act.put, List.setIfInBounds_toArray, List.set_cons_zero, List.set_cons_succ])
            refine reg_on (i := 1) (d := 31) (v := ?rv2) rfl rfl (by kernel_rfl) (by kernel_rfl) (by kernel_rfl) (fun _ _ _ h => h) (by rfl) ?ry2 (by assumption) ?rr2
            case ry2 => (intro wz hSw; (try dsimp only at hSw); go_simp; try with_reducible rfl)
            (try simp only [Act.put, List.setIfInBounds_toArray, List.set_cons_zero, List.set_cons_succ])
            refine reg_on (i := 2) (d := 32) (v := ?rv3) rfl rfl (by kernel_rfl) (by kernel_rfl) (by kernel_rfl) (fun _ _ _ h => h) (by rfl) ?ry3 (by assumption) ?rr3
            case ry3 => (intro wz hSw; (try dsimp only at hSw); go_simp; try with_reducible rfl)
            (try simp only [Act.put, List.setIfInBounds_toArray, List.set_cons_zero, List.set_cons_succ])
            refine reg_on (i := 3) (d := 33) (v := ?rv4) rfl rfl (by kernel_rfl) (by kernel_rfl) (by kernel_rfl) (fun _ _ _ h => h) (by rfl) ?ry4 (by assumption) ?rr4
            case ry4 => (intro wz hSw; (try dsimp only at hSw); go_simp; try with_reducible rfl)
            (try simp only [Act.put, List.setIfInBounds_toArray, List.set_cons_zero, List.set_cons_succ])
            refine reg_on (i := 4) (d := 34) (v := ?rv5) rfl rfl (by kernel_rfl) (by kernel_rfl) (by kernel_rfl) (fun _ _ _ h => h) (by rfl) ?ry5 (by assumption) ?rr5
            case ry5 => (intro wz hSw; (try dsimp only at hSw); go_simp; try with_reducible rfl)
            (try simp only [Act.put, List.setIfInBounds_toArray, List.set_cons_zero, List.set_cons_succ])
            refine reg_on (i := 5) (d := 35) (v := ?rv6) rfl rfl (by kernel_rfl) (by kernel_rfl) (by kernel_rfl) (fun _ _ _ h => h) (by rfl) ?ry6 (by assumption) ?rr6
            case ry6 => (intro wz hSw; (try dsimp only at hSw); go_simp; try with_reducible rfl)
            (try simp only [Act.put, List.setIfInBounds_toArray, List.set_cons_zero, List.set_cons_succ])
            refine reg_on (i := 6) (d := 36) (v := ?rv7) rfl rfl (by kernel_rfl) (by kernel_rfl) (by kernel_rfl) (fun _ _ _ h => h) (by rfl) ?ry7 (by assumption) ?rr7
            case ry7 => (intro wz hSw; (try dsimp only at hSw); go_simp; try with_reducible rfl)
            (try simp only [Act.put, List.setIfInBounds_toArray, List.set_cons_zero, List.set_cons_succ])
            refine reg_on (i := 7) (d := 37) (v := ?rv8) rfl rfl (by kernel_rfl) (by kernel_rfl) (by kernel_rfl) (fun _ _ _ h => h) (by rfl) ?ry8 (by assumption) ?rr8
            case ry8 => (intro wz hSw; (try dsimp only at hSw); go_simp; try with_reducible rfl)
            (try simp only [Act.put, List.setIfInBounds_toArray, List.set_cons_zero, List.set_cons_succ])
            refine reg_on (i := 8) (d := 38) (v := ?rv9) rfl rfl (by kernel_rfl) (by kernel_rfl) (by kernel_rfl) (fun _ _ _ h => h) (by rfl) ?ry9 (by assumption) ?rr9
            case ry9 => (intro wz hSw; (try dsimp only at hSw); go_simp; try with_reducible rfl)
            (try simp only [Act.put, List.setIfInBounds_toArray, List.set_cons_zero, List.set_cons_succ])
            refine reg_on (i := 9) (d := 39) (v := ?rv10) rfl rfl (by kernel_rfl) (by kernel_rfl) (by kernel_rfl) (fun _ _ _ h => h) (by rfl) ?ry10 (by assumption) ?rr10
            case ry10 => (intro wz hSw; (try dsimp only at hSw); go_simp; try with_reducible rfl)
            (try simp only [Act.put, List.setIfInBounds_toArray, List.set_cons_zero, List.set_cons_succ])
            refine reg_on (i := 10) (d := 40) (v := ?rv11) rfl rfl (by kernel_rfl) (by kernel_rfl) (by kernel_rfl) (fun _ _ _ h => h) (by rfl) ?ry11 (by assumption) ?rr11
            case ry11 => (intro wz hSw; (try dsimp only at hSw); go_simp; try with_reducible rfl)
            (try simp only [Act.put, List.setIfInBounds_toArray, List.set_cons_zero, List.set_cons_succ])
            refine reg_on (i := 11) (d := 41) (v := ?rv12) rfl rfl (by kernel_rfl) (by kernel_rfl) (by kernel_rfl) (fun _ _ _ h => h) (by rfl) ?ry12 (by assumption) ?rr12
            case ry12 => (intro wz hSw; (try dsimp only at hSw); go_simp; try with_reducible rfl)
            (try simp only [Act.put, List.setIfInBounds_toArray, List.set_cons_zero, List.set_cons_succ])
            refine wpAnyH_ready (rs := [12]) (by kernel_rfl) (by simp) ?_
            refine AllReadyH.cons rfl (fun K hK => ?_) AllReadyH.nil
            go_simp
            refine hK.out _ _ ?_ (fun hHeld => ?_)
            · ((try dsimp only); (repeat' apply And.intro); all_goals ((repeat (first | (with_reducible refine cell_drew ?_) | (with_reducible refine cell_drewN _ ?_) | ((with_reducible refine cell_alloc ?_ ?_); · first | omega | (simp; done) | (simp; omega) | assumption) | ((with_reducible refine cell_set ?_ ?_); · first | (intro e; injection e; omega) | (intro e; simp at e; done) | (intro e; simp at e; omega)))); first | assumption | (simp; done)))
            clear hK K
            (try simp only [Act.put, List.setIfInBounds_toArray, List.set_cons_zero, List.set_cons_succ])
            refine wpAnyH_ready (rs := [13]) (by kernel_rfl) (by simp) ?_
            refine AllReadyH.cons rfl (fun K hK => ?_) AllReadyH.nil
            refine step_append_own rfl (.tmp 30) (.tmp 42) 33 rfl wo.heap.size 3 i0 (.int .i64 0) 1 8 Tryd.underlying33 hi hz0 hz1 hz2 rfl (by decide) _ _ _ rfl (hown.alloc (.cells #[.int .i64 q] 3)).drew ⟨wr.heap.size, 0, none⟩ 1 1 [.int .i64 q] rfl rfl (new1 wr 3 (.int .i64 q)) (int_oneCell [q]) hc3 (by omega) (by show wo.heap.size ≤ (wr.alloc _).heap.size; simp; omega) ?_; intro v' w4 hown' hgrow _; have hb4 := bgrow (hB.alloc sB2 (.cells #[.int .i64 q] 3)).drew (hown.alloc (.cells #[.int .i64 q] 3)).drew hgrow (by show wo.heap.size ≤ (wr.alloc _).heap.size; simp; omega); have d1 := (hb4.cell (p := ⟨w.heap.size, k + 1, none⟩) hgl).trans pw1; have d2 := (hb4.cell (p := ⟨w.heap.size, d, none⟩) hgl).trans pw2
            refine hK.out _ _ ?_ (fun hHeld => ?_)
            · ((try dsimp only); (repeat' apply And.intro); all_goals ((repeat (first | (with_reducible refine cell_drew ?_) | (with_reducible refine cell_drewN _ ?_) | ((with_reducible refine cell_alloc ?_ ?_); · first | omega | (simp; done) | (simp; omega) | assumption) | ((with_reducible refine cell_set ?_ ?_); · first | (intro e; injection e; omega) | (intro e; simp at e; done) | (intro e; simp at e; omega)))); first | assumption | (simp; done)))
            clear hK K
            (try simp only [Act.put, List.setIfInBounds_toArray, List.set_cons_zero, List.set_cons_succ])
            refine reg_on (i := 14) (d := 9) (v := ?rv15) rfl rfl (by kernel_rfl) (by kernel_rfl) (by kernel_rfl) (fun _ _ _ h => h) (by rfl) ?ry15 (by assumption) ?rr15
            case ry15 => (intro wz hSw; (try dsimp only at hSw); go_simp; try with_reducible rfl)
            (try simp only [Act.put, List.setIfInBounds_toArray, List.set_cons_zero, List.set_cons_succ])
            refine wpAnyH_done (by kernel_rfl) ?_ _
            obtain ⟨A', c', rfl⟩ := own_slice hown'
            have HO4 := Lib.hid hown'
            have HB4 := Lib.hid hb4
            clear hown' hb4 hgrow hown hB X1 d1 d2 p1 p2 pw1 pw2
            go_wp2
            go_roundw
            case rel => exact ⟨k + 1, m + 1, A', c', by omega, by go_num, rfl, by rw [HY.out, intCells_append]; exact HO4.out, HB4.out⟩
            case measure => simp [intOf]; omega
        · have hkk : k = n / 2 := by omega
          have HP := Lib.hid (prT_end (l := l) (u := u) hkk)
          have hlki : ¬ 2 * ((k : Int) + 1) ≤ (n : Int) := by omega
          have HEQ := Lib.hid (sV_eq (pr := xr) (ch := mx) (l := l) (u := u) (n := n) (by omega))
          have HOS := Lib.hid hown
          have HBS := Lib.hid hB
          have hltn : n < N + 1 := by omega
          have hltni : (n : Int) < (N : Int) + 1 := by omega
          clear hown hB hkk
          go_wp2
          obtain ⟨ws, hws⟩ : ∃ ws, ws = wr := ⟨_, rfl⟩
          subst hws
          go_loopw [44] (fun q wr => ∃ b : Nat, b ≤ m ∧ wr.ownsRow w.heap.size 3 1 (.slice (some ⟨w.heap.size, 0, none⟩) (N + 1) (N + 1)) (N + 1) (intCells (tabF (fun j => if j = n then (b : Int) else if j < n then vS l u j else 0) N)) ∧ wr.ownsRow wo.heap.size 3 1 (.slice A m c) m (intCells (prT l u n k)) ∧ Hid (∀ j, j < b → (j : Int) ∈ prT l u n k) ∧ Below w.heap.size w wr) (fun _ wr => m + 1 - (intOf ((wr.cell? ⟨w.heap.size, n, none⟩).getD undef)).toNat)
          case atStart =>
            refine ⟨0, by omega, ?_, HOS.out, fun j hj => by omega, HB.out.trans (HBS.out.mono sB)⟩
            have h := own_later HO.out HBS.out (Nat.le_refl _)
            rw [tabF_congr (g := fun j => if j = n then ((0 : Nat) : Int) else if j < n then vS l u j else 0) (fun j hj => by
              by_cases e : j = n
              · subst e; simp
              · rw [if_neg e])] at h
            exact h
          case round =>
            obtain ⟨b, hb, hown, hro, hT, hB⟩ := hrel
            have hrd := Rd.of_own hro
            have pc := hown.cellAt n (by omega)
            rw [tabF_cell _ hlt, if_pos rfl] at pc
            have pf := hown.frozenAt n
            have hgl3 := (hown.lt w.heap.size (by simp [Value.ownBlock])).2
            have hPL : (prT l u n k).length = m := hrd.ilen
            have HPL := Lib.hid hPL
            have HC := Lib.hid (l1Has_any A m c (prT l u n k) b wr hrd (by omega))
            have HRD := Lib.hid hro
            have HO5 := Lib.hid hown
            have HB5 := Lib.hid hB
            have hb60 : (b : Int) ≤ 60 := by omega
            clear hPL hrd hro hown hB
            by_cases hm : (b : Int) ∈ prT l u n k
            · have HM := Lib.hid (decide_eq_true hm)
              have hT2 : Hid (∀ j, j < b + 1 → (j : Int) ∈ prT l u n k) := fun j hj => by
                by_cases e : j = b
                · subst e; exact hm
                · exact hT.out j (by omega)
              have hk1 : b + 1 ≤ m := by have := IsMex.le hT2.out; have := HPL.out; omega
              have st := (HO5.out.stored n (.int .i64 ((b : Int) + 1))).1
              rw [set_intCells, tabF_set] at st
              rw [tabF_congr (g := fun j => if j = n then ((b + 1 : Nat) : Int) else if j < n then vS l u j else 0) (fun j hj => by
                by_cases e : j = n
                · simp [e]
                · simp [e])] at st
              have ST := Lib.hid st
              have HB6 := Lib.hid (bset (p := ⟨w.heap.size, n, none⟩) (Nat.le_refl _) (.int .i64 ((b : Int) + 1)) HB5.out)
              have HR6 := Lib.hid (own_setN (o := n) (u := .int .i64 ((b : Int) + 1)) HRD.out hgl)
              clear hm st
              go_wp2_with fail
              refine HC.out.mono ?_; rintro e wx ⟨rfl, rfl⟩
              rw [HM.out]
              go_wp2
              go_roundw
              case rel => exact ⟨b + 1, hk1, by simpa using ST.out, HR6.out, hT2, HB6.out⟩
              case measure =>
                have m1 : (wr.setCell ⟨w.heap.size, n, none⟩ (.int .i64 ((b : Int) + 1))).cell? ⟨w.heap.size, n, none⟩ = some (.int .i64 ((b : Int) + 1)) := World.cell?_setCell_same _ _ _ pc
                simp [pc, m1, intOf]; omega
            · have HM := Lib.hid (decide_eq_false hm)
              have HX : Hid (mexL (prT l u n k) = b) := mexL_is ⟨hm, hT.out⟩
              have hVn : vS l u n = (b : Int) := by
                show sV xr mx l u n = _
                rw [HEQ.out, mx, ← HX.out, HP.out]
              have hrow : tabF (fun j => if j = n then (b : Int) else if j < n then vS l u j else 0) N = tabF (fun j => if j < n + 1 then vS l u j else 0) N := tabF_congr fun j hj => by
                by_cases e : j = n
                · rw [if_pos e, if_pos (by omega), e, hVn]
                · by_cases e2 : j < n
                  · rw [if_neg e, if_pos e2, if_pos (by omega)]
                  · rw [if_neg e, if_neg e2, if_neg (by omega)]
              have HROW := Lib.hid hrow
              clear hm hVn hrow
              go_wp2_with fail
              refine HC.out.mono ?_; rintro e wx ⟨rfl, rfl⟩
              rw [HM.out]
              go_wp2
              go_roundw
              case rel => exact ⟨n + 1, by omega, by omega, by go_num, by rw [← HROW.out]; exact HO5.out, HB5.out⟩
              case measure => simp [intOf]; omega
    · obtain rfl : n = N + 1 := by omega
      have HE : Hid (tabF (fun j => if j < N + 1 then vS l u j else 0) N = tabF (vS l u) N) := tabF_congr fun j hj => if_pos (by omega)
      have HO := Lib.hid hown
      have HB := Lib.hid hB
      have hlti : ¬ (((N + 1 : Nat) : Int)) ≤ (N : Int) := by omega
      clear hown hB HO1 HB1
      go_wp2
      go_ret
      exact ⟨w.heap.size, rfl, by rw [← HE.out]; exact HO.out, HB.out⟩
end Go.Proofs.YtcocdidkkcjbgaaDoor
