/-
  Contract: the longest or the shortest plays of all strips up to one, of the model. Condition: lengths.
-/
import Derived.Test.YthemmckchmpicabDoorLav
import Derived.Test.YthemmckchmpicabDoorPlW
import Derived.Test.YthemmckchmpicabDoorReg
namespace Go.Proofs.YthemmckchmpicabDoor
open Go.RowKit
set_option linter.unusedVariables false
set_option linter.unusedSimpArgs false

def chX (lg : Bool) : List Int → Int := if lg then maxL else minL
theorem chX_nil (lg : Bool) : chX lg [] = 0 := by cases lg <;> rfl
theorem chX_mem (lg : Bool) {L : List Int} (h : L ≠ []) : chX lg L ∈ L := by
  cases lg
  · exact minL_mem h
  · exact maxL_mem h
abbrev pS (lg : Bool) (l : Int) (u : Bool) (n : Nat) : Int := sV mvP (chX lg) l u n
theorem pS_in {lg : Bool} {l : Int} {u : Bool} {n : Nat} (h : n ≤ 60) : 0 ≤ pS lg l u n ∧ pS lg l u n ≤ 60 := by
  obtain ⟨a, b, _⟩ := play_in (ch := chX lg) (l := l) (u := u) (chX_nil lg) (fun L h => chX_mem lg h) 61 n
  exact ⟨a, by show svF mvP (chX lg) l u 61 n ≤ 60; omega⟩
theorem pS_0 (lg : Bool) (l : Int) (u : Bool) : pS lg l u 0 = 0 := by
  show sV mvP (chX lg) l u 0 = 0
  rw [sV_eq (by omega), pairsL, smT_short (by simp)]
  exact chX_nil lg
/-- the plays by the places up to k -/
def plT (lg : Bool) (l : Int) (u : Bool) (n k : Nat) : List Int := (smT n l u k).map fun t => mvP (pS lg l u t.toNat) (pS lg l u (n - t.toNat))
theorem plT_end {lg : Bool} {l : Int} {u : Bool} {n k : Nat} (h : k = n / 2) : plT lg l u n k = pairsL mvP l u (pS lg l u) n := by
  unfold plT pairsL smL
  rw [h, show ((n : Int) / 2).toNat = n / 2 by omega]
theorem plT_yes {lg : Bool} {l : Int} {u : Bool} {n k d : Nat} (hd : d + (k + 1) = n) (h : canS n ((k : Int) + 1) l u = true) : plT lg l u n (k + 1) = plT lg l u n k ++ [mvP (pS lg l u (k + 1)) (pS lg l u d)] := by
  rw [plT, smT_yes h, List.map_append]
  simp only [List.map_cons, List.map_nil]
  rw [show ((k : Int) + 1).toNat = k + 1 by omega, show n - (k + 1) = d by omega]
  rfl
theorem plT_no {lg : Bool} {l : Int} {u : Bool} {n k : Nat} (h : canS n ((k : Int) + 1) l u = false) : plT lg l u n (k + 1) = plT lg l u n k := by rw [plT, smT_no h]; rfl

set_option maxRecDepth 100000 in
set_option maxHeartbeats 8000000 in
theorem laPlay_any (N : Nat) (l : Int) (u lg : Bool) (w : World) (h1 : 1 ≤ N) (h2 : N ≤ 60) (h3 : 1 ≤ l) (h4 : l ≤ 60) :
    Calls Tryd.prog 37 #[.int .i64 N, .int .i64 l, .bool u, .bool lg] w fun e w' => ∃ g, e = .returned (.slice (some ⟨g, 0, none⟩) (N + 1) (N + 1)) ∧ w'.ownsRow w.heap.size 3 1 (.slice (some ⟨g, 0, none⟩) (N + 1) (N + 1)) (N + 1) (intCells (tabF (pS lg l u) N)) ∧ Below w.heap.size w w' := by
  obtain ⟨i0, hi, hz0, hz1, hz2⟩ := info_parts intS_info
  have HV := Lib.hid (fun k (hk : k ≤ 60) => pS_in (lg := lg) (l := l) (u := u) hk)
  go_enter Tryd.func37, Tryd.ntmps37
  go_wp2_with (at_make; refine wpList_make_full _ rfl (.tmp 15) (.tmp 15) 22 rfl w.heap.size 3 i0 (.int .i64 0) 1 Tryd.underlying22 hi hz0 hz1 .i64 .i64 _ _ (N + 1) rfl rfl (by omega) (by omega) ?b2 ?b3 (Nat.le_refl _) ?_)
  case b2 => rw [hz2]; omega
  case b3 => simp only [maxLen]; omega
  intro w1 hown hgrow
  have hb1 : Below w.heap.size w w1 := (Below.refl _ _).grown hgrow (Nat.le_refl _) (fun k hk => by cases hk)
  have e1 : (madeCells #[Value.int IntKind.i64 0] (N + 1)).toList = intCells (tabF (fun j => if j < 1 then pS lg l u j else 0) N) := by
    rw [toList_madeCells_one]
    apply List.ext_getElem?
    intro j
    by_cases hj : j ≤ N
    · rw [tabF_cell _ hj, List.getElem?_replicate, if_pos (by omega)]
      by_cases h0 : j < 1
      · rw [if_pos h0, show j = 0 by omega, pS_0]
      · rw [if_neg h0]
    · rw [List.getElem?_eq_none (by simp; omega), List.getElem?_eq_none (by rw [length_intCells, length_tabF]; omega)]
  rw [e1] at hown
  have HO1 := Lib.hid hown
  have HB1 := Lib.hid hb1
  clear hgrow hown e1 hb1
  go_wp2
  go_loopw [10] (fun i wr => ∃ n : Nat, 1 ≤ n ∧ n ≤ N + 1 ∧ i = .int .i64 n ∧ wr.ownsRow w.heap.size 3 1 (.slice (some ⟨w.heap.size, 0, none⟩) (N + 1) (N + 1)) (N + 1) (intCells (tabF (fun j => if j < n then pS lg l u j else 0) N)) ∧ Below w.heap.size w wr) (fun i _ => N + 1 - (intOf i).toNat)
  case atStart => exact ⟨1, by omega, by omega, rfl, HO1.out, HB1.out⟩
  case round =>
    obtain ⟨n, hn1, hnN, rfl, hown, hB⟩ := hrel
    by_cases hlt : n ≤ N
    · have hlti : (n : Int) ≤ (N : Int) := by omega
      have HO := Lib.hid hown
      have HB := Lib.hid hB
      have HEQ := Lib.hid (sV_eq (pr := mvP) (ch := chX lg) (l := l) (u := u) (n := n) (by omega))
      clear hown hB HO1 HB1
      go_wp2
      obtain ⟨wo, hwo⟩ : ∃ wo, wo = wr := ⟨_, rfl⟩
      subst hwo
      go_loopw [11, 12] (fun f i wr => ∃ k : Nat, 2 * k ≤ n ∧ i = .int .i64 ((k : Int) + 1) ∧ f = .bool (!(plT lg l u n k).isEmpty) ∧ wr.ownsRow w.heap.size 3 1 (.slice (some ⟨w.heap.size, 0, none⟩) (N + 1) (N + 1)) (N + 1) (intCells (tabF (fun j => if j = n then chX lg (plT lg l u n k) else if j < n then pS lg l u j else 0) N)) ∧ Below w.heap.size w wr) (fun _ i _ => 62 - (intOf i).toNat)
      case atStart =>
        refine ⟨0, by omega, rfl, rfl, ?_, HB.out⟩
        have h := HO.out
        rw [tabF_congr (g := fun j => if j = n then chX lg (plT lg l u n 0) else if j < n then pS lg l u j else 0) (fun j hj => by
          by_cases e : j = n
          · subst e; rw [if_pos rfl, show plT lg l u j 0 = [] from rfl, chX_nil]; simp
          · rw [if_neg e])] at h
        exact h
      case round =>
        clear HB HO
        obtain ⟨k, hk, rfl, rfl, hown, hB⟩ := hrel
        have hgl := (hown.lt w.heap.size (by simp [Value.ownBlock])).2
        by_cases hlk : 2 * (k + 1) ≤ n
        · have hlki : 2 * ((k : Int) + 1) ≤ (n : Int) := by omega
          have hcl := laCan_any n ((k : Int) + 1) l u wr (by omega) (by omega) h3 h4 (by omega) (by omega)
          cases hc : canS n ((k : Int) + 1) l u
          · have HY := Lib.hid (plT_no (lg := lg) hc)
            rw [hc] at hcl
            clear hc
            have HC := Lib.hid hcl
            have HO := Lib.hid hown
            have HB := Lib.hid hB
            generalize hfl : (!(plT lg l u n k).isEmpty) = fl at *
            have HFL := Lib.hid hfl
            clear hcl hown hB hfl
            go_wp2_with fail
            refine HC.out.mono ?_; rintro e wx ⟨rfl, rfl⟩
            go_wp2
            go_roundw
            case rel => exact ⟨k + 1, by omega, by go_num, by rw [HY.out, HFL.out], by rw [HY.out]; exact HO.out, HB.out⟩
            case measure => simp [intOf]; omega
          · obtain ⟨d, hd⟩ : ∃ d : Nat, d + (k + 1) = n := ⟨n - (k + 1), by omega⟩
            have HY := Lib.hid (plT_yes (lg := lg) hd hc)
            rw [hc] at hcl
            clear hc
            have HC := Lib.hid hcl
            have p1 := hown.cellAt (k + 1) (by omega)
            rw [tabF_cell _ (by omega), if_neg (by omega), if_pos (by omega)] at p1
            have p2 := hown.cellAt d (by omega)
            rw [tabF_cell _ (by omega), if_neg (by omega), if_pos (by omega)] at p2
            have p3 := hown.cellAt n (by omega)
            rw [tabF_cell _ (by omega), if_pos rfl] at p3
            have pf := hown.frozenAt n
            obtain ⟨v1, v2⟩ := HV.out (k + 1) (by omega)
            obtain ⟨v3, v4⟩ := HV.out d (by omega)
            have hne : plT lg l u n (k + 1) ≠ [] := by rw [HY.out]; simp
            have hst := fun v => (hown.stored n (.int .i64 v)).1
            have hcong : ∀ v, tabF (fun j => if j = n then v else if j = n then chX lg (plT lg l u n k) else if j < n then pS lg l u j else 0) N = tabF (fun j => if j = n then v else if j < n then pS lg l u j else 0) N := fun v => tabF_congr fun j hj => by
              by_cases e : j = n
              · simp [e]
              · simp [e]
            have HST : Hid (∀ v, (wr.setCell ⟨w.heap.size, n, none⟩ (.int .i64 v)).ownsRow w.heap.size 3 1 (.slice (some ⟨w.heap.size, 0, none⟩) (N + 1) (N + 1)) (N + 1) (intCells (tabF (fun j => if j = n then v else if j < n then pS lg l u j else 0) N))) := fun v => by
              have h := hst v
              rw [set_intCells, tabF_set, hcong] at h
              exact h
            have HF2 : Hid ((!(plT lg l u n (k + 1)).isEmpty) = true) := by rw [Hid, HY.out]; simp
            have HCH : Hid (chX lg (plT lg l u n (k + 1)) = if (plT lg l u n k).isEmpty then mvP (pS lg l u (k + 1)) (pS lg l u d) else if lg then max (chX lg (plT lg l u n k)) (mvP (pS lg l u (k + 1)) (pS lg l u d)) else min (chX lg (plT lg l u n k)) (mvP (pS lg l u (k + 1)) (pS lg l u d))) := by
              rw [Hid, HY.out]
              by_cases e : plT lg l u n k = []
              · rw [e]; cases lg <;> rfl
              · have e2 : (plT lg l u n k).isEmpty = false := by simpa using e
                rw [e2]
                cases lg
                · simp only [chX, Bool.false_eq_true, if_false]; exact minL_snoc e _
                · simp only [chX, if_true, Bool.false_eq_true, if_false]; exact maxL_snoc e _
            have y1 : (k : Int) + 1 < (N : Int) + 1 := by omega
            have y2 : (d : Int) < (N : Int) + 1 := by omega
            have y3 : k + 1 < N + 1 := by omega
            have y4 : d < N + 1 := by omega
            have y5 : (0 : Int) ≤ (k : Int) + 1 := by omega
            have y6 : (0 : Int) ≤ (d : Int) := by omega
            have y7 : ((k : Int) + 1).toNat = k + 1 := by omega
            have y8 : (n : Int) < (N : Int) + 1 := by omega
            have y9 : n < N + 1 := by omega
            have wsub : IntKind.i64.wrap (d : Int) = (d : Int) := IntWalk.i64_in _ (by omega)
            have wsub2 : (n : Int) - ((k : Int) + 1) = (d : Int) := by omega
            have HO := Lib.hid hown
            have HB := Lib.hid hB
            generalize pS lg l u (k + 1) = a1 at *
            generalize pS lg l u d = a2 at *
            have wsum : IntKind.i64.wrap (a1 + a2) = a1 + a2 := IntWalk.i64_in _ (by omega)
            have wsum2 : IntKind.i64.wrap (a1 + a2 + 1) = a1 + a2 + 1 := IntWalk.i64_in _ (by omega)
            have HMV : Hid (mvP a1 a2 = a1 + a2 + 1) := by rw [Hid, mvP]; omega
            rw [HMV.out] at HCH
            generalize hm : a1 + a2 + 1 = mv at *
            generalize chX lg (plT lg l u n k) = old at *
            generalize hfe : (plT lg l u n k).isEmpty = fe at *
            have HD := Lib.hid hd
            have HN2 := Lib.hid hne
            clear hcl hown hB hst hcong hd hne hfe v1 v2 v3 v4
            go_wp2_with fail
            refine HC.out.mono ?_; rintro e wx ⟨rfl, rfl⟩
            go_wp2
            refine wp_region_held_drew (S := (fun w' => w'.cell? ⟨w.heap.size, k + 1, none⟩ = some (.int .i64 a1) ∧ w'.cell? ⟨w.heap.size, d, none⟩ = some (.int .i64 a2))) (by kernel_rfl) ?_ (fun hHeld => ?_)
            · ((try dsimp only); (repeat' apply And.intro); all_goals ((repeat (first | (with_reducible refine cell_drew ?_) | (with_reducible refine cell_drewN _ ?_) | ((with_reducible refine cell_alloc ?_ ?_); · first | omega | (simp; done) | (simp; omega) | assumption) | ((with_reducible refine cell_set ?_ ?_); · first | (intro e; injection e; omega) | (intro e; simp at e; done) | (intro e; simp at e; omega)))); first | assumption | (simp; done)))
            refine reg_on (i := 0) (d := 34) (v := ?rv1) rfl rfl (by kernel_rfl) (by kernel_rfl) (by kernel_rfl) (fun _ _ _ h => h) (by rfl) ?ry1 (by assumption) ?rr1
            case ry1 => (intro wz hSw; (try dsimp only at hSw); go_simp; try with_reducible rfl)
            (try simp only [Act.put, List.setIfInBounds_toArray, List.set_cons_zero, List.set_cons_succ])
            refine reg_on (i := 1) (d := 35) (v := ?rv2) rfl rfl (by kernel_rfl) (by kernel_rfl) (by kernel_rfl) (fun _ _ _ h => h) (by rfl) ?ry2 (by assumption) ?rr2
            case ry2 => (intro wz hSw; (try dsimp only at hSw); go_simp; try with_reducible rfl)
            (try simp only [Act.put, List.setIfInBounds_toArray, List.set_cons_zero, List.set_cons_succ])
            refine reg_on (i := 2) (d := 36) (v := ?rv3) rfl rfl (by kernel_rfl) (by kernel_rfl) (by kernel_rfl) (fun _ _ _ h => h) (by rfl) ?ry3 (by assumption) ?rr3
            case ry3 => (intro wz hSw; (try dsimp only at hSw); go_simp; try with_reducible rfl)
            (try simp only [Act.put, List.setIfInBounds_toArray, List.set_cons_zero, List.set_cons_succ])
            refine reg_on (i := 3) (d := 37) (v := ?rv4) rfl rfl (by kernel_rfl) (by kernel_rfl) (by kernel_rfl) (fun _ _ _ h => h) (by rfl) ?ry4 (by assumption) ?rr4
            case ry4 => (intro wz hSw; (try dsimp only at hSw); go_simp; try with_reducible rfl)
            (try simp only [Act.put, List.setIfInBounds_toArray, List.set_cons_zero, List.set_cons_succ])
            refine reg_on (i := 4) (d := 38) (v := ?rv5) rfl rfl (by kernel_rfl) (by kernel_rfl) (by kernel_rfl) (fun _ _ _ h => h) (by rfl) ?ry5 (by assumption) ?rr5
            case ry5 => (intro wz hSw; (try dsimp only at hSw); go_simp; try with_reducible rfl)
            (try simp only [Act.put, List.setIfInBounds_toArray, List.set_cons_zero, List.set_cons_succ])
            refine reg_on (i := 5) (d := 39) (v := ?rv6) rfl rfl (by kernel_rfl) (by kernel_rfl) (by kernel_rfl) (fun _ _ _ h => h) (by rfl) ?ry6 (by assumption) ?rr6
            case ry6 => (intro wz hSw; (try dsimp only at hSw); go_simp; try with_reducible rfl)
            (try simp only [Act.put, List.setIfInBounds_toArray, List.set_cons_zero, List.set_cons_succ])
            refine reg_on (i := 6) (d := 40) (v := ?rv7) rfl rfl (by kernel_rfl) (by kernel_rfl) (by kernel_rfl) (fun _ _ _ h => h) (by rfl) ?ry7 (by assumption) ?rr7
            case ry7 => (intro wz hSw; (try dsimp only at hSw); go_simp; try with_reducible rfl)
            (try simp only [Act.put, List.setIfInBounds_toArray, List.set_cons_zero, List.set_cons_succ])
            refine reg_on (i := 7) (d := 41) (v := ?rv8) rfl rfl (by kernel_rfl) (by kernel_rfl) (by kernel_rfl) (fun _ _ _ h => h) (by rfl) ?ry8 (by assumption) ?rr8
            case ry8 => (intro wz hSw; (try dsimp only at hSw); go_simp; try with_reducible rfl)
            (try simp only [Act.put, List.setIfInBounds_toArray, List.set_cons_zero, List.set_cons_succ])
            refine reg_on (i := 8) (d := 42) (v := ?rv9) rfl rfl (by kernel_rfl) (by kernel_rfl) (by kernel_rfl) (fun _ _ _ h => h) (by rfl) ?ry9 (by assumption) ?rr9
            case ry9 => (intro wz hSw; (try dsimp only at hSw); go_simp; try with_reducible rfl)
            (try simp only [Act.put, List.setIfInBounds_toArray, List.set_cons_zero, List.set_cons_succ])
            refine reg_on (i := 9) (d := 43) (v := ?rv10) rfl rfl (by kernel_rfl) (by kernel_rfl) (by kernel_rfl) (fun _ _ _ h => h) (by rfl) ?ry10 (by assumption) ?rr10
            case ry10 => (intro wz hSw; (try dsimp only at hSw); go_simp; try with_reducible rfl)
            (try simp only [Act.put, List.setIfInBounds_toArray, List.set_cons_zero, List.set_cons_succ])
            refine reg_on (i := 10) (d := 44) (v := ?rv11) rfl rfl (by kernel_rfl) (by kernel_rfl) (by kernel_rfl) (fun _ _ _ h => h) (by rfl) ?ry11 (by assumption) ?rr11
            case ry11 => (intro wz hSw; (try dsimp only at hSw); go_simp; try with_reducible rfl)
            (try simp only [Act.put, List.setIfInBounds_toArray, List.set_cons_zero, List.set_cons_succ])
            refine reg_on (i := 11) (d := 45) (v := ?rv12) rfl rfl (by kernel_rfl) (by kernel_rfl) (by kernel_rfl) (fun _ _ _ h => h) (by rfl) ?ry12 (by assumption) ?rr12
            case ry12 => (intro wz hSw; (try dsimp only at hSw); go_simp; try with_reducible rfl)
            (try simp only [Act.put, List.setIfInBounds_toArray, List.set_cons_zero, List.set_cons_succ])
            refine reg_on (i := 12) (d := 13) (v := ?rv13) rfl rfl (by kernel_rfl) (by kernel_rfl) (by kernel_rfl) (fun _ _ _ h => h) (by rfl) ?ry13 (by assumption) ?rr13
            case ry13 => (intro wz hSw; (try dsimp only at hSw); go_simp; try with_reducible rfl)
            (try simp only [Act.put, List.setIfInBounds_toArray, List.set_cons_zero, List.set_cons_succ])
            refine wpAnyH_done (by kernel_rfl) ?_ _
            have pd : wr.drew.cell? ⟨w.heap.size, n, none⟩ = some (.int .i64 old) := p3
            have pfd : wr.drew.frozen? ⟨w.heap.size, n, none⟩ = false := pf
            have HSD : Hid (∀ v, (wr.drew.setCell ⟨w.heap.size, n, none⟩ (.int .i64 v)).ownsRow w.heap.size 3 1 (.slice (some ⟨w.heap.size, 0, none⟩) (N + 1) (N + 1)) (N + 1) (intCells (tabF (fun j => if j = n then v else if j < n then pS lg l u j else 0) N))) := fun v => HST.out v
            have HBD : Hid (Below w.heap.size w wr.drew) := HB.out.drew
            have HOD : Hid (wr.drew.ownsRow w.heap.size 3 1 (.slice (some ⟨w.heap.size, 0, none⟩) (N + 1) (N + 1)) (N + 1) (intCells (tabF (fun j => if j = n then old else if j < n then pS lg l u j else 0) N))) := HO.out
            have hgld : w.heap.size < wr.drew.heap.size := hgl
            generalize wr.drew = wd at *
            clear p1 p2 p3 pf HST HB HO wsub wsub2 wsum wsum2
            have hupd : chX lg (plT lg l u n (k + 1)) = mv → ∃ x : Nat, True := fun _ => ⟨0, trivial⟩
            clear hupd
            cases fe
            · simp only [Bool.false_eq_true, if_false] at HCH
              cases lg
              · simp only [Bool.false_eq_true, if_false] at HCH
                by_cases hlt3 : mv < old
                · have hd3 : decide (mv < old) = true := decide_eq_true hlt3
                  have HV2 : Hid (chX false (plT false l u n (k + 1)) = mv) := by rw [Hid, HCH.out]; omega
                  clear hlt3
                  go_wp2
                  go_roundw
                  case rel => exact ⟨k + 1, by omega, by go_num, by rw [HF2.out], by rw [HV2.out]; exact HSD.out mv, bset (p := ⟨w.heap.size, n, none⟩) (Nat.le_refl _) _ HBD.out⟩
                  case measure => simp [intOf]; omega
                · have hd3 : decide (mv < old) = false := decide_eq_false hlt3
                  have HV2 : Hid (chX false (plT false l u n (k + 1)) = old) := by rw [Hid, HCH.out]; omega
                  clear hlt3
                  go_wp2
                  go_roundw
                  case rel => exact ⟨k + 1, by omega, by go_num, by rw [HF2.out], by rw [HV2.out]; exact HOD.out, HBD.out⟩
                  case measure => simp [intOf]; omega
              · simp only [if_true] at HCH
                by_cases hlt3 : old < mv
                · have hd3 : decide (old < mv) = true := decide_eq_true hlt3
                  have HV2 : Hid (chX true (plT true l u n (k + 1)) = mv) := by rw [Hid, HCH.out]; omega
                  clear hlt3
                  go_wp2
                  go_roundw
                  case rel => exact ⟨k + 1, by omega, by go_num, by rw [HF2.out], by rw [HV2.out]; exact HSD.out mv, bset (p := ⟨w.heap.size, n, none⟩) (Nat.le_refl _) _ HBD.out⟩
                  case measure => simp [intOf]; omega
                · have hd3 : decide (old < mv) = false := decide_eq_false hlt3
                  have HV2 : Hid (chX true (plT true l u n (k + 1)) = old) := by rw [Hid, HCH.out]; omega
                  clear hlt3
                  go_wp2
                  go_roundw
                  case rel => exact ⟨k + 1, by omega, by go_num, by rw [HF2.out], by rw [HV2.out]; exact HOD.out, HBD.out⟩
                  case measure => simp [intOf]; omega
            · simp only [if_true] at HCH
              go_wp2
              go_roundw
              case rel => exact ⟨k + 1, by omega, by go_num, by rw [HF2.out], by rw [HCH.out]; exact HSD.out mv, bset (p := ⟨w.heap.size, n, none⟩) (Nat.le_refl _) _ HBD.out⟩
              case measure => simp [intOf]; omega
        · have hkk : k = n / 2 := by omega
          have HP := Lib.hid (plT_end (lg := lg) (l := l) (u := u) hkk)
          have hlki : ¬ 2 * ((k : Int) + 1) ≤ (n : Int) := by omega
          have hVn : chX lg (plT lg l u n k) = pS lg l u n := by
            show _ = sV mvP (chX lg) l u n
            rw [HEQ.out, HP.out]
          have hrow : tabF (fun j => if j = n then chX lg (plT lg l u n k) else if j < n then pS lg l u j else 0) N = tabF (fun j => if j < n + 1 then pS lg l u j else 0) N := tabF_congr fun j hj => by
            by_cases e : j = n
            · rw [if_pos e, if_pos (by omega), e, hVn]
            · by_cases e2 : j < n
              · rw [if_neg e, if_pos e2, if_pos (by omega)]
              · rw [if_neg e, if_neg e2, if_neg (by omega)]
          rw [hrow] at hown
          have HO := Lib.hid hown
          have HB := Lib.hid hB
          generalize (!(plT lg l u n k).isEmpty) = fl at *
          clear hown hB hkk hVn hrow
          go_wp2
          go_roundw
          case rel => exact ⟨n + 1, by omega, by omega, by go_num, HO.out, HB.out⟩
          case measure => simp [intOf]; omega
    · obtain rfl : n = N + 1 := by omega
      have HE : Hid (tabF (fun j => if j < N + 1 then pS lg l u j else 0) N = tabF (pS lg l u) N) := tabF_congr fun j hj => if_pos (by omega)
      have HO := Lib.hid hown
      have HB := Lib.hid hB
      have hlti : ¬ (((N + 1 : Nat) : Int)) ≤ (N : Int) := by omega
      clear hown hB HO1 HB1
      go_wp2
      go_ret
      exact ⟨w.heap.size, rfl, by rw [← HE.out]; exact HO.out, HB.out⟩
end Go.Proofs.YthemmckchmpicabDoor
