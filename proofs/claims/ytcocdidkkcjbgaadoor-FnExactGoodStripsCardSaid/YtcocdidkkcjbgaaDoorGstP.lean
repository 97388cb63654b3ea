/-
  Contract: GoodStrips of the program. Condition: where the program has laid its errors.
-/
import Derived.Test.YtcocdidkkcjbgaaDoorGstS
import Derived.Test.YtcocdidkkcjbgaaDoorLaidE
namespace Go.Proofs.YtcocdidkkcjbgaaDoor
open Go.RowKit
set_option linter.unusedVariables false
set_option linter.unusedSimpArgs false

theorem step_store_row {P : Program} {ops : Array Oper} {o : Oper} {a : Act} {w : World} {K : Act → World → Prop} {Q : Exit → Act → World → Prop} {E : Prop} (hgd : o.guard = none) (ty : TypeId) (x y : Operand) (ho : o.op = .store ty x y)
    (g : Nat) (cells : Array Value) (hx : a.eval x = .pointer (some ⟨g, 0, none⟩)) (hy : a.eval y = .agg cells)
    (t : TypeId) (old : Array Value) (hg : w.heap[g]? = some (.cells old t (0, 0))) (hi : (P.info? ty).map (·.size) = some cells.size)
    (hold : old.size = cells.size) (h1 : cells.all (·.oneCell') = true)
    (h : K (a.put o.dst undef) (w.setRow g cells)) : if Region.wanted o (yielded ops a.tmps) = true then Oper.wp P o a w K Q else E := by
  have hw : Region.wanted o (yielded ops a.tmps) = true := by simp [Region.wanted, hgd]
  rw [if_pos hw]
  exact wp_store_row ty x y ho g cells hx hy t old hg hi hold h1 h

/-- the good moves of the strip x among the first j of its moves -/
def gsJ (a l : Int) (u : Bool) (x i : Int) (j : Nat) : List (Int × Int) := (((smL x l u).take j).filter (gsB a l u x)).map fun t => (i, t)
theorem gsJ_zero {a l : Int} {u : Bool} {x i : Int} : gsJ a l u x i 0 = [] := by simp [gsJ]
theorem gsJ_succ {a l : Int} {u : Bool} {x i : Int} {j : Nat} (hj : j < (smL x l u).length) : gsJ a l u x i (j + 1) = gsJ a l u x i j ++ (if gsB a l u x (smL x l u)[j] then [(i, (smL x l u)[j])] else []) := gs1_take hj
theorem gsJ_length {a l : Int} {u : Bool} {x i : Int} (j : Nat) : (gsJ a l u x i j).length ≤ j := by
  unfold gsJ
  rw [List.length_map]
  exact Nat.le_trans (List.length_filter_le _ _) (by simp; omega)
theorem gs1_all {a l : Int} {u : Bool} {x i : Int} : gs1 a l u x i = gsJ a l u x i (smL x l u).length := by
  unfold gs1 gsT gsJ
  rw [List.take_of_length_le (Nat.le_refl _)]
  rfl
theorem smL_short {X : Nat} {l : Int} {u : Bool} (h : X ≤ 60) : (smL X l u).length ≤ 30 := by
  have := length_smT (X : Int) l u ((X : Int) / 2).toNat
  unfold smL
  omega

set_option maxRecDepth 100000 in
set_option maxHeartbeats 8000000 in
theorem goodStrips_any (A : Option Addr) (n c : Nat) (L : List Int) (l : Int) (u : Bool) (w : World) (hr : Rd w 1 A n (intCells L)) (hn : n ≤ 4000000000) (a0 : Addr) (hL : LaidE w a0) :
    Calls Tryd.prog 16 #[.slice A n c, .int .i64 l, .bool u] w fun e w' => ∃ A' n' c', e = .returned (.tuple #[.slice A' n' c', .bool (okSS L l)]) ∧ (n' = (gsR L l u).length ∧ n' ≤ 1000000) ∧ OwnSS w' w.heap.size (.slice A' n' c') n' (prR (gsR L l u)) ∧ Below w.heap.size w w' := by
  have HL := Lib.hid hr.ilen
  cases hA : areS L
  · have hk : okSS L l = false := by simp [okSS, hA]
    rw [gsR_no hk, hk]
    go_enter Tryd.func16, Tryd.ntmps16
    go_wp2_with fail
    refine (areStrips_any A n c L _ hr hn).mono ?_; rintro e wx ⟨rfl, rfl⟩
    rw [hA]
    clear hA hk
    go_wp2
    go_ret2
    exact ⟨none, 0, 0, rfl, ⟨rfl, by omega⟩, OwnSS.nil _ _ _, Below.refl _ _⟩
  · cases hl : inB l 1 60
    · have hk : okSS L l = false := by simp [okSS, hA, hl]
      rw [gsR_no hk, hk]
      go_enter Tryd.func16, Tryd.ntmps16
      go_wp2_with fail
      refine (areStrips_any A n c L _ hr hn).mono ?_; rintro e wx ⟨rfl, rfl⟩
      rw [hA]
      clear hA hk
      go_wp2_with fail
      refine (isLen_any _ _).mono ?_; rintro e wx ⟨rfl, rfl⟩
      rw [hl]
      clear hl
      go_wp2
      go_ret2
      exact ⟨none, 0, 0, rfl, ⟨rfl, by omega⟩, OwnSS.nil _ _ _, Below.refl _ _⟩
    · have hk : okSS L l = true := by simp [okSS, hA, hl]
      have HGR := Lib.hid (gsR_yes (u := u) hk)
      rw [HGR.out, hk]
      clear hk
      obtain ⟨hn1, hn8, hall⟩ := areS_true hA
      obtain ⟨N, hN⟩ : ∃ N : Nat, maxL L = N := ⟨(maxL L).toNat, by have := maxL_in (L := L) (by omega) hall; omega⟩
      obtain ⟨N1, N2⟩ : 1 ≤ N ∧ N ≤ 60 := by have := maxL_in (L := L) (by omega) hall; omega
      obtain ⟨l1, l2⟩ := inB_true hl
      have HALL := Lib.hid hall
      have HXI : Hid (0 ≤ xsA l u L ∧ xsA l u L ≤ 31) := xsT_in (l := l) (u := u) hall L.length (Nat.le_refl _)
      have HMX : Hid (∀ t ∈ L, t ≤ N) := fun t ht => by have := le_maxL ht; omega
      have HS := Lib.hid (fun wx hLx => stripValues_any N l u a0 wx hLx N1 N2 l1 l2)
      have HV := Lib.hid (fun wx (hrx : Rd wx 1 A n (intCells L)) => valueOfStrips_any A n c L l u (fun j => if j < N + 1 then vS l u j else 0) wx hrx hn hall (fun t ht => by
        have a1 := le_maxL ht
        have a2 := inB_true (List.all_eq_true.1 hall _ ht)
        rw [if_pos (by omega)]))
      have HM := Lib.hid (fun wx (hrx : Rd wx 1 A n (intCells L)) => slMax_any A n c L wx hrx (by have := HL.out; omega) (by have := HL.out; omega))
      rw [hN] at HM
      obtain ⟨V, hV⟩ : ∃ V, V = vA l u N := ⟨_, rfl⟩
      rw [← hV] at HS
      have HVI : Hid ((Tryd.prog.info? 63).map (·.size) = some V.size) := by rw [Hid, hV, size_arrN]; kernel_rfl
      have HVZ : Hid ((arrN fun _ => 0).size = V.size) := by rw [Hid, hV, size_arrN, size_arrN]
      have HVO : Hid (V.all (·.oneCell') = true) := by rw [Hid, hV]; exact oneCell_arrN _
      have HVR : Hid (V = arrN fun j => if j < N + 1 then vS l u j else 0) := hV
      clear hV
      have HLE := Lib.hid hL
      have HRD := Lib.hid hr
      have h8 : n ≤ 8 := by rw [← HL.out]; omega
      have hng := hL.2.2
      have hA2 := Lib.hid hA
      clear hall hN hA hL
      go_enter Tryd.func16, Tryd.ntmps16
      go_wp2_with fail
      refine (areStrips_any A n c L _ hr hn).mono ?_; rintro e wx ⟨rfl, rfl⟩
      rw [hA2.out]
      go_wp2_with fail
      refine (isLen_any _ _).mono ?_; rintro e wx ⟨rfl, rfl⟩
      rw [hl]
      clear hr hl hA2
      have zc : zcN = arrN (fun _ => 0) := zcN_arr
      have hzf := fun wx => zeroN wx
      have hze := zcN_ne
      go_wp2_with fail
      rename_i K hK0
      obtain ⟨W1, hW1⟩ : ∃ W1, W1 = w.alloc (.cells #[.int .i64 l, .bool u] 61) := ⟨_, rfl⟩
      have sW1 : W1.heap.size = w.heap.size + 1 := by rw [hW1]; simp
      have bW1 : Below w.heap.size w W1 := by rw [hW1]; exact (Below.refl _ _).alloc (Nat.le_refl _) _
      have cl0 : W1.cell? ⟨w.heap.size, 0, none⟩ = some (.int .i64 l) := by rw [hW1]; simp [go_sem]
      have cl1 : W1.cell? ⟨w.heap.size, 1, none⟩ = some (.bool u) := by rw [hW1]; simp [go_sem]
      rw [← hW1]
      clear hW1
      have TAIL : ∀ (g : Nat) (W : World), RowN W g (fun j => if j < N + 1 then vS l u j else 0) → Below w.heap.size w W → w.heap.size < g → W.cell? ⟨w.heap.size, 0, none⟩ = some (.int .i64 l) → W.cell? ⟨w.heap.size, 1, none⟩ = some (.bool u) → K { tmps := #[.slice A n c, .int .i64 l, .bool u, undef, undef, undef, .slice none 0 0, .bool false, .pointer (some ⟨w.heap.size, 0, none⟩), .pointer (some ⟨g, 0, none⟩), undef, undef, undef, undef, undef, undef, undef, .slice A n c, .bool true, .bool false, .bool false, .int .i64 l, .bool true, .bool false, .bool false, .int .i64 l, .bool u, .agg #[.int .i64 l, .bool u], .slice A n c, .int .i64 (N : Int), .agg #[.int .i64 l, .bool u],   .agg V, undef, undef, undef, undef, undef, undef, undef, undef, undef, undef, undef, undef, undef, undef, undef, undef, undef, undef, undef, undef, undef, undef, undef, undef, undef, undef, undef, undef, undef, undef, undef, undef, undef, undef, undef, undef, undef, undef, undef, undef, undef, undef, undef], defers := [] } W := by
        intro g W rn bW hgw k0 k1
        refine hK0 _ _ ?_
        have HRN := Lib.hid rn
        have HRH : Hid (W.heap[g]? = some (.cells (vA l u N) 63 (0, 0))) := rn
        have HRW := Lib.hid (HRD.out.later bW (Nat.le_refl _))
        have HLW := Lib.hid (HLE.out.later bW hng (by have := bW.size; omega))
        have HBW := Lib.hid bW
        have HK := Lib.hid (And.intro k0 k1)
        clear rn bW k0 k1 hK0
        go_wp2_with (first | refine wpList_load_row rfl 63 (.tmp 9) rfl g rfl _ (vA l u N) _ _ HRH.out Tryd.underlying63 rfl (by rw [size_arrN]; kernel_rfl) ?_)
        refine (HV.out _ HRW.out).mono ?_; rintro e w4 ⟨rfl, hb4⟩
        have s4 := hb4.size
        have sW := HBW.out.size
        have hgW : g < W.heap.size := HRN.out.lt
        have HR4 := Lib.hid (HRW.out.later hb4 (Nat.le_refl _))
        have HL4 := Lib.hid (HLW.out.later hb4 (by omega) (by omega))
        have HRN4 := Lib.hid (HRN.out.below hb4 hgW)
        have HB4 := Lib.hid (HBW.out.trans (hb4.mono sW))
        have HK4 : Hid (w4.cell? ⟨w.heap.size, 0, none⟩ = some (.int .i64 l) ∧ w4.cell? ⟨w.heap.size, 1, none⟩ = some (.bool u)) := ⟨(hb4.cell (p := ⟨w.heap.size, 0, none⟩) (by show w.heap.size < W.heap.size; omega)).trans HK.out.1, (hb4.cell (p := ⟨w.heap.size, 1, none⟩) (by show w.heap.size < W.heap.size; omega)).trans HK.out.2⟩
        have hg4 : g < w4.heap.size := by omega
        have hw4 : w.heap.size < w4.heap.size := by omega
        have hng4 : 2 ≤ w4.heap.size := by omega
        clear hb4 HRN HRH HRW HLW HBW HK HV
        generalize hxx : xsA l u L = a at *
        have HXX := Lib.hid hxx
        clear hxx sW hgW s4
        obtain ⟨i0, hi, hz0, hz1, hz2⟩ := info_parts ints_info
        go_wp2
        go_loopw [11, 37] (fun v i wr => ∃ (k m : Nat) (A' : Option Addr) (c' : Nat), k ≤ n ∧ i = .int .i64 k ∧ v = .slice A' m c' ∧ m = (gsK a l u L k).length ∧ OwnSS wr w4.heap.size (.slice A' m c') m (prR (gsK a l u L k)) ∧ Below w4.heap.size w4 wr) (fun _ i _ => n - (intOf i).toNat)
        case atStart => exact ⟨0, 0, none, 0, by omega, rfl, rfl, rfl, OwnSS.nil _ _ _, Below.refl _ _⟩
        case round =>
          obtain ⟨k, m, A', c', hk, rfl, rfl, hm, hown, hB⟩ := hrel
          have sB := hB.size
          by_cases hlt : k < n
          · obtain ⟨b, o, rfl, hbl, hx, p0⟩ := (HR4.out.later hB (Nat.le_refl _)).num hlt
            obtain ⟨x1, x2⟩ := allS_at HALL.out hx
            have x3 := HMX.out _ (List.getElem_mem hx)
            have hgd : L.getD k 0 = L[k] := by simp [List.getD, hx]
            have HKS : Hid (gsK a l u L (k + 1) = gsK a l u L k ++ gs1 a l u L[k] k) := by rw [Hid, gsK, hgd]
            have HML := Lib.hid (gsK_length (a := a) (l := l) (u := u) HALL.out k (by omega))
            generalize L[k] = x at *
            obtain ⟨X, rfl⟩ : ∃ X : Nat, x = X := ⟨x.toNat, by omega⟩
            have HO := Lib.hid hown
            have HMM := Lib.hid hm
            clear hm
            have HB := Lib.hid hB
            have kk0 : wr.cell? ⟨w.heap.size, 0, none⟩ = some (.int .i64 l) := (hB.cell (p := ⟨w.heap.size, 0, none⟩) hw4).trans HK4.out.1
            have kk1 : wr.cell? ⟨w.heap.size, 1, none⟩ = some (.bool u) := (hB.cell (p := ⟨w.heap.size, 1, none⟩) hw4).trans HK4.out.2
            have v1 := vS_in (l := l) (u := u) (n := X) (by omega)
            have q1 : wr.cell? ⟨g, X, none⟩ = some (.int .i64 (vS l u X)) := by
              have h := (HRN4.out.below hB hg4).cell (k := X) (by omega)
              rwa [if_pos (by omega)] at h
            have X1 := xr_bits HXI.out.1 HXI.out.2 v1.1 v1.2
            have k1 := xr_in31 HXI.out.1 HXI.out.2 v1.1 v1.2
            have HZ : Hid (∀ T : Nat, T ≤ X → (gsB a l u X T = decide (xr a (vS l u X) = xr (vS l u T) (vS l u (X - T))))) := fun T hT => by
              rw [gsB, show ((X : Int)).toNat - ((T : Int)).toNat = X - T by omega, show ((T : Int)).toNat = T by omega, show ((X : Int)).toNat = X by omega]
            generalize vS l u X = u1 at *
            generalize xr a u1 = z1 at *
            have y1 : (X : Int) < 61 := by omega
            have y4 : X < 61 := by omega
            have y7 : (0 : Int) ≤ (X : Int) := by omega
            have HLr := Lib.hid (HL4.out.later hB hng4 (by omega))
            have HSM := Lib.hid (fun wx hLx => stripMoves_any X l u a0 wx hLx x1 x2 l1 l2)
            obtain ⟨wo, rfl⟩ : ∃ wo, wo = wr := ⟨_, rfl⟩
            clear hown hB hgd
            go_wp2_with fail
            refine (HSM.out _ HLr.out).mono ?_; rintro e w5 ⟨A2, n2, c2, rfl, own2, hb5⟩
            have s5 := hb5.size
            have HO5 := Lib.hid (OwnSS.later HO.out hb5 (Nat.le_refl _))
            have HB5 := Lib.hid (HB.out.trans (hb5.mono sB))
            have HSL : Hid ((smL X l u).length = n2) := (Rd.of_own own2).ilen
            have HSI : Hid (∀ j (hj : j < (smL X l u).length), ∃ T : Nat, (smL X l u)[j] = T ∧ 1 ≤ T ∧ 2 * T ≤ X) := fun j hj => by
              have h := smL_in (List.getElem_mem hj)
              exact ⟨((smL X l u)[j]).toNat, by omega, by omega, by omega⟩
            have hn2 : n2 ≤ 30 := by rw [← HSL.out]; exact smL_short (by omega)
            have HW2 := Lib.hid own2
            clear own2 hb5 q1 kk0 kk1 p0 HSM HLr
            go_wp2
            go_loopw [11, 51] (fun v i wr => ∃ (j m' : Nat) (A' : Option Addr) (c' : Nat), j ≤ n2 ∧ i = .int .i64 j ∧ v = .slice A' m' c' ∧ m' = (gsK a l u L k ++ gsJ a l u X k j).length ∧ OwnSS wr w4.heap.size (.slice A' m' c') m' (prR (gsK a l u L k ++ gsJ a l u X k j)) ∧ Below w4.heap.size w4 wr ∧ wr.ownsRow w4.heap.size 3 1 (.slice A2 n2 c2) n2 (intCells (smL X l u))) (fun _ i _ => n2 - (intOf i).toNat)
            case atStart => exact ⟨0, m, A', c', by omega, rfl, rfl, by rw [gsJ_zero, List.append_nil]; exact HMM.out, by rw [gsJ_zero, List.append_nil]; exact HO5.out, HB5.out, own_base HW2.out sB⟩
            case round =>
              obtain ⟨j, m', A3, c3, hj, rfl, rfl, hm', hown, hB2, hsm⟩ := hrel
              have sB2 := hB2.size
              by_cases hlj : j < n2
              · obtain ⟨b2, o2, rfl, hbl2, hx2, p2⟩ := (Rd.of_own hsm).num hlj
                obtain ⟨T, hT, t1, t2⟩ := HSI.out j hx2
                have HJ := Lib.hid (gsJ_succ (a := a) (l := l) (u := u) (x := (X : Int)) (i := (k : Int)) hx2)
                rw [hT] at p2 HJ
                obtain ⟨D, hD⟩ : ∃ D : Nat, D = X - T := ⟨_, rfl⟩
                have hrow := HRN4.out.below hB2 hg4
                have q2 : wr.cell? ⟨g, T, none⟩ = some (.int .i64 (vS l u T)) := by
                  have h := hrow.cell (k := T) (by omega)
                  rwa [if_pos (by omega)] at h
                have q3 : wr.cell? ⟨g, D, none⟩ = some (.int .i64 (vS l u D)) := by
                  have h := hrow.cell (k := D) (by omega)
                  rwa [if_pos (by omega)] at h
                have v2 := vS_in (l := l) (u := u) (n := T) (by omega)
                have v3 := vS_in (l := l) (u := u) (n := D) (by omega)
                have HGB := HZ.out T (by omega)
                rw [← hD] at HGB
                have HG := Lib.hid HGB
                have HVP := Lib.hid (fun wx => valueOfPair_any (vS l u T) (vS l u D) wx ⟨v2.1, v2.2⟩ ⟨v3.1, v3.2⟩)
                generalize vS l u T = u2 at *
                generalize vS l u D = u3 at *
                generalize xr u2 u3 = z2 at *
                have y2 : (T : Int) < 61 := by omega
                have y3 : (D : Int) < 61 := by omega
                have y5 : T < 61 := by omega
                have y6 : D < 61 := by omega
                have y8 : (0 : Int) ≤ (T : Int) := by omega
                have y9 : (0 : Int) ≤ (D : Int) := by omega
                have wsub : IntKind.i64.wrap ((X : Int) - (T : Int)) = (D : Int) := by rw [show (X : Int) - (T : Int) = D by omega]; exact IntWalk.i64_in _ (by omega)
                have HDD := Lib.hid hD
                have HTT := Lib.hid hT
                have HM' := Lib.hid hm'
                have HSM2 := Lib.hid hsm
                clear hrow v2 v3 hD hT hm' HGB hsm
                by_cases he : z1 = z2
                · have tz : (z1 == z2) = true := by simp [he]
                  have HYES : Hid (gsJ a l u X k (j + 1) = gsJ a l u X k j ++ [((k : Int), (T : Int))]) := by rw [Hid, HJ.out, HG.out, if_pos (by simp [he])]
                  have HSS := Lib.hid (OwnSS.later hown (Below.refl wr.heap.size wr).drew (Nat.le_refl _))
                  have HBB := Lib.hid hB2.drew
                  have HSD : Hid (wr.drew.ownsRow w4.heap.size 3 1 (.slice (some ⟨b2, o2, none⟩) n2 c2) n2 (intCells (smL X l u))) := own_later HSM2.out (Below.refl wr.heap.size wr).drew (Nat.le_refl _)
                  have sB3 : w4.heap.size ≤ wr.drew.heap.size := sB2
                  clear hown hB2 he
                  go_wp2
                  refine wp_region_held_drew (S := (fun w' => w'.cell? ⟨g, T, none⟩ = some (.int .i64 u2) ∧ w'.cell? ⟨g, D, none⟩ = some (.int .i64 u3))) (by kernel_rfl) ?_ (fun hHeld => ?_)
                  · ((try dsimp only); (repeat' apply And.intro); all_goals ((repeat (first | (with_reducible refine cell_drew ?_) | (with_reducible refine cell_drewN _ ?_) | ((with_reducible refine cell_alloc ?_ ?_); · first | omega | (simp; done) | (simp; omega) | assumption) | ((with_reducible refine cell_set ?_ ?_); · first | (intro e; injection e; omega) | (intro e; simp at e; done) | (intro e; simp at e; omega)))); first | assumption | (simp; done)))
                  refine reg_on (i := 0) (d := 55) (v := ?rv1) rfl rfl (by kernel_rfl) (by kernel_rfl) (by kernel_rfl) (fun _ _ _ h => h) (by rfl) ?ry1 (by assumption) ?rr1
                  case ry1 => (intro wz hSw; (try dsimp only at hSw); go_simp; try with_reducible rfl)
                  (try simp only [Act.put, List.setIfInBounds_toArray, List.set_cons_zero, List.set_cons_succ])
                  refine reg_on (i := 1) (d := 56) (v := ?rv2) rfl rfl (by kernel_rfl) (by kernel_rfl) (by kernel_rfl) (fun _ _ _ h => h) (by rfl) ?ry2 (by assumption) ?rr2
                  case ry2 => (intro wz hSw; (try dsimp only at hSw); go_simp; try with_reducible rfl)
                  (try simp only [Act.put, List.setIfInBounds_toArray, List.set_cons_zero, List.set_cons_succ])
                  refine reg_on (i := 2) (d := 57) (v := ?rv3) rfl rfl (by kernel_rfl) (by kernel_rfl) (by kernel_rfl) (fun _ _ _ h => h) (by rfl) ?ry3 (by assumption) ?rr3
                  case ry3 => (intro wz hSw; (try dsimp only at hSw); go_simp; try with_reducible rfl)
                  (try simp only [Act.put, List.setIfInBounds_toArray, List.set_cons_zero, List.set_cons_succ])
                  refine reg_on (i := 3) (d := 58) (v := ?rv4) rfl rfl (by kernel_rfl) (by kernel_rfl) (by kernel_rfl) (fun _ _ _ h => h) (by rfl) ?ry4 (by assumption) ?rr4
                  case ry4 => (intro wz hSw; (try dsimp only at hSw); go_simp; try with_reducible rfl)
                  (try simp only [Act.put, List.setIfInBounds_toArray, List.set_cons_zero, List.set_cons_succ])
                  refine reg_on (i := 4) (d := 59) (v := ?rv5) rfl rfl (by kernel_rfl) (by kernel_rfl) (by kernel_rfl) (fun _ _ _ h => h) (by rfl) ?ry5 (by assumption) ?rr5
                  case ry5 => (intro wz hSw; (try dsimp only at hSw); go_simp; try with_reducible rfl)
                  (try simp only [Act.put, List.setIfInBounds_toArray, List.set_cons_zero, List.set_cons_succ])
                  refine reg_on (i := 5) (d := 60) (v := ?rv6) rfl rfl (by kernel_rfl) (by kernel_rfl) (by kernel_rfl) (fun _ _ _ h => h) (by rfl) ?ry6 (by assumption) ?rr6
                  case ry6 => (intro wz hSw; (try dsimp only at hSw); go_simp; try with_reducible rfl)
                  (try simp only [Act.put, List.setIfInBounds_toArray, List.set_cons_zero, List.set_cons_succ])
                  refine reg_on (i := 6) (d := 61) (v := ?rv7) rfl rfl (by kernel_rfl) (by kernel_rfl) (by kernel_rfl) (fun _ _ _ h => h) (by rfl) ?ry7 (by assumption) ?rr7
                  case ry7 => (intro wz hSw; (try dsimp only at hSw); go_simp; try with_reducible rfl)
                  (try simp only [Act.put, List.setIfInBounds_toArray, List.set_cons_zero, List.set_cons_succ])
                  refine reg_on (i := 7) (d := 62) (v := ?rv8) rfl rfl (by kernel_rfl) (by kernel_rfl) (by kernel_rfl) (fun _ _ _ h => h) (by rfl) ?ry8 (by assumption) ?rr8
                  case ry8 => (intro wz hSw; (try dsimp only at hSw); go_simp; try with_reducible rfl)
                  (try simp only [Act.put, List.setIfInBounds_toArray, List.set_cons_zero, List.set_cons_succ])
                  refine reg_on (i := 8) (d := 63) (v := ?rv9) rfl rfl (by kernel_rfl) (by kernel_rfl) (by kernel_rfl) (fun _ _ _ h => h) (by rfl) ?ry9 (by assumption) ?rr9
                  case ry9 => (intro wz hSw; (try dsimp only at hSw); go_simp; try with_reducible rfl)
                  (try simp only [Act.put, List.setIfInBounds_toArray, List.set_cons_zero, List.set_cons_succ])
                  refine wpAnyH_ready (rs := [9]) (by kernel_rfl) (by simp) ?_
                  refine AllReadyH.cons rfl (fun K hK => ?_) AllReadyH.nil
                  go_simp
                  go_at_call 40; refine (HVP.out _).mono ?_; rintro e wx ⟨rfl, rfl⟩
                  refine hK.out _ _ ?_ (fun hHeld => ?_)
                  · ((try dsimp only); (repeat' apply And.intro); all_goals ((repeat (first | (with_reducible refine cell_drew ?_) | (with_reducible refine cell_drewN _ ?_) | ((with_reducible refine cell_alloc ?_ ?_); · first | omega | (simp; done) | (simp; omega) | assumption) | ((with_reducible refine cell_set ?_ ?_); · first | (intro e; injection e; omega) | (intro e; simp at e; done) | (intro e; simp at e; omega)))); first | assumption | (simp; done)))
                  clear hK K
                  (try simp only [Act.put, List.setIfInBounds_toArray, List.set_cons_zero, List.set_cons_succ])
                  refine reg_on (i := 10) (d := 65) (v := ?rv11) rfl rfl (by kernel_rfl) (by kernel_rfl) (by kernel_rfl) (fun _ _ _ h => h) (by rfl) ?ry11 (by assumption) ?rr11
                  case ry11 => (intro wz hSw; (try dsimp only at hSw); go_simp; try with_reducible rfl)
                  (try simp only [Act.put, List.setIfInBounds_toArray, List.set_cons_zero, List.set_cons_succ])
                  refine wpAnyH_done (by kernel_rfl) ?_ _
                  clear q2 q3 p2 hHeld
                  generalize wr.drew = wd at *
                  obtain ⟨AA, CC, ho⟩ := HSS.out
                  have HOA := Lib.hid ho
                  have hbz : Below wd.heap.size wd ((wd.alloc (.cells #[.int .i64 k, .int .i64 T] 3)).alloc (.cells #[.slice (some ⟨wd.heap.size, 0, none⟩) 2 2] 33)) := by (repeat (first | (with_reducible exact Below.refl _ _) | (with_reducible assumption) | (with_reducible refine Below.drew ?_) | ((with_reducible refine balloc ?_ _ ?_); · (first | (simp; done) | (simp; omega) | omega)) | ((with_reducible refine bset ?_ _ ?_); · (first | (simp; done) | (simp; omega) | omega)) | (with_reducible refine bdrewN _ ?_) | ((with_reducible refine bcall ?_ (by assumption) ?_); · (first | (simp; done) | (simp; omega) | omega))))
                  have hnew : (wd.alloc (.cells #[.int .i64 k, .int .i64 T] 3)).ownsRow wd.heap.size 3 1 (.slice (some ⟨wd.heap.size, 0, none⟩) 2 2) 2 (intCells [(k : Int), (T : Int)]) := by
                    have h := own_newP wd 3 1 2 #[.int .i64 k, .int .i64 T] rfl (by omega) (B := wd.heap.size) (by simp)
                    simpa [intCells] using h
                  have HN := Lib.hid (World.ownsRow.alloc hnew (.cells #[.slice (some ⟨wd.heap.size, 0, none⟩) 2 2] 33))
                  have HBZ := Lib.hid hbz
                  have htop2 := World.ownsRow.alloc (World.ownsRow.alloc ho.top (.cells #[.int .i64 k, .int .i64 T] 3)) (.cells #[.slice (some ⟨wd.heap.size, 0, none⟩) 2 2] 33)
                  have HT2 := Lib.hid htop2
                  have HS2 := Lib.hid (World.ownsRow.alloc (World.ownsRow.alloc HSD.out (.cells #[.int .i64 k, .int .i64 T] 3)) (.cells #[.slice (some ⟨wd.heap.size, 0, none⟩) 2 2] 33))
                  have hnw := new1 (wd.alloc (.cells #[.int .i64 k, .int .i64 T] 3)) 33 (.slice (some ⟨wd.heap.size, 0, none⟩) 2 2)
                  rw [show (wd.alloc (.cells #[.int .i64 k, .int .i64 T] 3)).heap.size = wd.heap.size + 1 by simp] at hnw
                  have HLEN := Lib.hid (gsJ_length (a := a) (l := l) (u := u) (x := (X : Int)) (i := (k : Int)) j)
                  have hm240 : m' ≤ 300 := by have e1 := HM'.out; have e2 := HLEN.out; have e3 := HML.out; rw [List.length_append] at e1; omega
                  have hc3 : m' + 1 ≤ maxLen := by simp only [maxLen]; omega
                  clear ho hnew htop2 hbz
                  go_wp2_with (at_builtin; refine wpList_append_own _ rfl (.tmp 66) (.tmp 70) 34 rfl w4.heap.size 33 i0 (.slice none 0 0) 1 24 Tryd.underlying34 hi hz0 hz1 hz2 rfl (by decide) _ _ _ rfl HT2.out ⟨wd.heap.size + 1, 0, none⟩ 1 1 [.slice (some ⟨wd.heap.size, 0, none⟩) 2 2] rfl rfl hnw (by intro u hu; simp at hu; subst hu; rfl) hc3 (by omega) (Nat.le_trans sB3 (by simp; omega)) ?_)
                  intro v' w9 hown' hgrow _
                  obtain ⟨A9, c9, rfl⟩ := own_slice hown'
                  have hss := OwnAC.push HOA.out HBZ.out HN.out sB3 hgrow hown'
                  have hb9 : Below w4.heap.size w4 w9 := gb_new (Nat.le_refl _) (HBB.out.trans (HBZ.out.mono sB3)) hgrow (fun g hg => (HOA.out.top.lt g hg).1)
                  have hs9 := HS2.out.kept hgrow (own_types HS2.out HT2.out (by decide))
                  have HS9 : Hid (OwnSS w9 w4.heap.size (.slice A9 (m' + 1) c9) (m' + 1) (prR (gsK a l u L k ++ gsJ a l u X k (j + 1)))) := hss.congr fun i hi => by
                    rw [HYES.out, ← List.append_assoc]
                    exact prR_snoc HM'.out.symm ((k : Int), (T : Int)) i hi
                  have HB9 := Lib.hid hb9
                  have HSM9 := Lib.hid hs9
                  clear hss hb9 hgrow hown' HOA HBZ HN HT2 HBB HSS hnw hs9
                  go_wp2
                  go_roundw
                  case rel => exact ⟨j + 1, m' + 1, A9, c9, by omega, by go_num, rfl, by rw [HYES.out, ← List.append_assoc, List.length_append (bs := [((k : Int), (T : Int))]), ← HM'.out]; rfl, HS9.out, HB9.out, HSM9.out⟩
                  case measure => simp [intOf]; omega
                · have tz : (z1 == z2) = false := by simp [he]
                  have HNO : Hid (gsJ a l u X k (j + 1) = gsJ a l u X k j) := by rw [Hid, HJ.out, HG.out, if_neg (by simp [he]), List.append_nil]
                  have HSS := Lib.hid hown
                  have HBB := Lib.hid hB2
                  clear hown hB2 he
                  go_wp2
                  refine wp_region_held_drew (S := (fun w' => w'.cell? ⟨g, T, none⟩ = some (.int .i64 u2) ∧ w'.cell? ⟨g, D, none⟩ = some (.int .i64 u3))) (by kernel_rfl) ?_ (fun hHeld => ?_)
                  · ((try dsimp only); (repeat' apply And.intro); all_goals ((repeat (first | (with_reducible refine cell_drew ?_) | (with_reducible refine cell_drewN _ ?_) | ((with_reducible refine cell_alloc ?_ ?_); · first | omega | (simp; done) | (simp; omega) | assumption) | ((with_reducible refine cell_set ?_ ?_); · first | (intro e; injection e; omega) | (intro e; simp at e; done) | (intro e; simp at e; omega)))); first | assumption | (simp; done)))
                  refine reg_on (i := 0) (d := 55) (v := ?rv12) rfl rfl (by kernel_rfl) (by kernel_rfl) (by kernel_rfl) (fun _ _ _ h => h) (by rfl) ?ry12 (by assumption) ?rr12
                  case ry12 => (intro wz hSw; (try dsimp only at hSw); go_simp; try with_reducible rfl)
                  (try simp only [Act.put, List.setIfInBounds_toArray, List.set_cons_zero, List.set_cons_succ])
                  refine reg_on (i := 1) (d := 56) (v := ?rv13) rfl rfl (by kernel_rfl) (by kernel_rfl) (by kernel_rfl) (fun _ _ _ h => h) (by rfl) ?ry13 (by assumption) ?rr13
                  case ry13 => (intro wz hSw; (try dsimp only at hSw); go_simp; try with_reducible rfl)
                  (try simp only [Act.put, List.setIfInBounds_toArray, List.set_cons_zero, List.set_cons_succ])
                  refine reg_on (i := 2) (d := 57) (v := ?rv14) rfl rfl (by kernel_rfl) (by kernel_rfl) (by kernel_rfl) (fun _ _ _ h => h) (by rfl) ?ry14 (by assumption) ?rr14
                  case ry14 => (intro wz hSw; (try dsimp only at hSw); go_simp; try with_reducible rfl)
                  (try simp only [Act.put, List.setIfInBounds_toArray, List.set_cons_zero, List.set_cons_succ])
                  refine reg_on (i := 3) (d := 58) (v := ?rv15) rfl rfl (by kernel_rfl) (by kernel_rfl) (by kernel_rfl) (fun _ _ _ h => h) (by rfl) ?ry15 (by assumption) ?rr15
                  case ry15 => (intro wz hSw; (try dsimp only at hSw); go_simp; try with_reducible rfl)
                  (try simp only [Act.put, List.setIfInBounds_toArray, List.set_cons_zero, List.set_cons_succ])
                  refine reg_on (i := 4) (d := 59) (v := ?rv16) rfl rfl (by kernel_rfl) (by kernel_rfl) (by kernel_rfl) (fun _ _ _ h => h) (by rfl) ?ry16 (by assumption) ?rr16
                  case ry16 => (intro wz hSw; (try dsimp only at hSw); go_simp; try with_reducible rfl)
                  (try simp only [Act.put, List.setIfInBounds_toArray, List.set_cons_zero, List.set_cons_succ])
                  refine reg_on (i := 5) (d := 60) (v := ?rv17) rfl rfl (by kernel_rfl) (by kernel_rfl) (by kernel_rfl) (fun _ _ _ h => h) (by rfl) ?ry17 (by assumption) ?rr17
                  case ry17 => (intro wz hSw; (try dsimp only at hSw); go_simp; try with_reducible rfl)
                  (try simp only [Act.put, List.setIfInBounds_toArray, List.set_cons_zero, List.set_cons_succ])
                  refine reg_on (i := 6) (d := 61) (v := ?rv18) rfl rfl (by kernel_rfl) (by kernel_rfl) (by kernel_rfl) (fun _ _ _ h => h) (by rfl) ?ry18 (by assumption) ?rr18
                  case ry18 => (intro wz hSw; (try dsimp only at hSw); go_simp; try with_reducible rfl)
                  (try simp only [Act.put, List.setIfInBounds_toArray, List.set_cons_zero, List.set_cons_succ])
                  refine reg_on (i := 7) (d := 62) (v := ?rv19) rfl rfl (by kernel_rfl) (by kernel_rfl) (by kernel_rfl) (fun _ _ _ h => h) (by rfl) ?ry19 (by assumption) ?rr19
                  case ry19 => (intro wz hSw; (try dsimp only at hSw); go_simp; try with_reducible rfl)
                  (try simp only [Act.put, List.setIfInBounds_toArray, List.set_cons_zero, List.set_cons_succ])
                  refine reg_on (i := 8) (d := 63) (v := ?rv20) rfl rfl (by kernel_rfl) (by kernel_rfl) (by kernel_rfl) (fun _ _ _ h => h) (by rfl) ?ry20 (by assumption) ?rr20
                  case ry20 => (intro wz hSw; (try dsimp only at hSw); go_simp; try with_reducible rfl)
                  (try simp only [Act.put, List.setIfInBounds_toArray, List.set_cons_zero, List.set_cons_succ])
                  refine wpAnyH_ready (rs := [9]) (by kernel_rfl) (by simp) ?_
                  refine AllReadyH.cons rfl (fun K hK => ?_) AllReadyH.nil
                  go_simp
                  go_at_call 40; refine (HVP.out _).mono ?_; rintro e wx ⟨rfl, rfl⟩
                  refine hK.out _ _ ?_ (fun hHeld => ?_)
                  · ((try dsimp only); (repeat' apply And.intro); all_goals ((repeat (first | (with_reducible refine cell_drew ?_) | (with_reducible refine cell_drewN _ ?_) | ((with_reducible refine cell_alloc ?_ ?_); · first | omega | (simp; done) | (simp; omega) | assumption) | ((with_reducible refine cell_set ?_ ?_); · first | (intro e; injection e; omega) | (intro e; simp at e; done) | (intro e; simp at e; omega)))); first | assumption | (simp; done)))
                  clear hK K
                  (try simp only [Act.put, List.setIfInBounds_toArray, List.set_cons_zero, List.set_cons_succ])
                  refine reg_on (i := 10) (d := 65) (v := ?rv22) rfl rfl (by kernel_rfl) (by kernel_rfl) (by kernel_rfl) (fun _ _ _ h => h) (by rfl) ?ry22 (by assumption) ?rr22
                  case ry22 => (intro wz hSw; (try dsimp only at hSw); go_simp; try with_reducible rfl)
                  (try simp only [Act.put, List.setIfInBounds_toArray, List.set_cons_zero, List.set_cons_succ])
                  refine wpAnyH_done (by kernel_rfl) ?_ _
                  go_wp2
                  go_roundw
                  case rel => exact ⟨j + 1, m', A3, c3, by omega, by go_num, rfl, by rw [HNO.out]; exact HM'.out, by rw [HNO.out]; exact OwnSS.later HSS.out (Below.refl wr.heap.size wr).drew (Nat.le_refl _), HBB.out.drew, own_later HSM2.out (Below.refl wr.heap.size wr).drew (Nat.le_refl _)⟩
                  case measure => simp [intOf]; omega
              · obtain rfl : j = n2 := by omega
                have HEND : Hid (gs1 a l u X k = gsJ a l u X k j) := by rw [Hid, ← HSL.out]; exact gs1_all
                have HO2' := Lib.hid hown
                have HBB := Lib.hid hB2
                have HM' := Lib.hid hm'
                clear hown hB2 hm' hsm
                go_wp2
                go_roundw
                case rel => exact ⟨k + 1, m', A3, c3, by omega, by go_num, rfl, by rw [HKS.out, HEND.out]; exact HM'.out, by rw [HKS.out, HEND.out]; exact HO2'.out, HBB.out⟩
                case measure => simp [intOf]; omega
          · obtain rfl : k = n := by omega
            have HO := Lib.hid hown
            have HB := Lib.hid hB
            have HKK : Hid (k = L.length) := HL.out.symm
            have HML := Lib.hid (gsK_length (a := a) (l := l) (u := u) HALL.out k (by rw [HL.out]; exact Nat.le_refl _))
            clear hown hB
            go_wp2
            go_ret2
            exact ⟨A', m, c', rfl, ⟨by rw [← HKK.out, HXX.out]; exact hm, by have := HML.out; omega⟩, by rw [← HKK.out, HXX.out]; exact OwnSS.base HO.out (Nat.le_of_lt hw4), HB4.out.trans (HB.out.mono (Nat.le_of_lt hw4))⟩
      have HT := Lib.hid TAIL
      clear TAIL hK0
      have HRX : Hid (∀ wx : World, Below w.heap.size w wx → Rd wx 1 A n (intCells L)) := fun wx hb => HRD.out.later hb (Nat.le_refl _)
      have HLX : Hid (∀ wx : World, Below w.heap.size w wx → LaidE wx a0) := fun wx hb => HLE.out.later hb hng (by have := hb.size; omega)
      have HNEW : Hid (∀ wx : World, RowN (wx.alloc (.cells zcN 63)) wx.heap.size (fun _ => 0)) := fun wx => by rw [zc]; exact RowN.new wx _
      have HNEW1 : Hid (RowN (W1.alloc (.cells zcN 63)).drew (w.heap.size + 1) (fun _ => 0)) := by rw [← sW1]; exact (HNEW.out W1).drew
      clear zc
      refine wp_region_held_drew (S := (fun w' => w'.cell? ⟨w.heap.size, 0, none⟩ = some (.int .i64 l) ∧ w'.cell? ⟨w.heap.size, 1, none⟩ = some (.bool u))) (by kernel_rfl) ?_ (fun hHeld => ?_)
      · ((try dsimp only); (repeat' apply And.intro); all_goals ((repeat (first | (with_reducible refine cell_drew ?_) | (with_reducible refine cell_drewN _ ?_) | ((with_reducible refine cell_alloc ?_ ?_); · first | omega | (simp; done) | (simp; omega) | assumption) | ((with_reducible refine cell_set ?_ ?_); · first | (intro e; injection e; omega) | (intro e; simp at e; done) | (intro e; simp at e; omega)))); first | assumption | (simp; done)))
      refine reg_on (i := 0) (d := 28) (v := ?rv23) rfl rfl (by kernel_rfl) (by kernel_rfl) (by kernel_rfl) (fun _ _ _ h => h) (by rfl) ?ry23 (by assumption) ?rr23
      case ry23 => (intro wz hSw; (try dsimp only at hSw); go_simp; try with_reducible rfl)
      (try simp only [Act.put, List.setIfInBounds_toArray, List.set_cons_zero, List.set_cons_succ])
      refine reg_on (i := 2) (d := 30) (v := ?rv24) rfl rfl (by kernel_rfl) (by kernel_rfl) (by kernel_rfl) (fun _ _ _ h => h) (by rfl) ?ry24 (by assumption) ?rr24
      case ry24 => (intro wz hSw; (try dsimp only at hSw); go_simp; try with_reducible rfl)
      (try simp only [Act.put, List.setIfInBounds_toArray, List.set_cons_zero, List.set_cons_succ])
      refine wpAnyH_ready (rs := [1, 4]) (by kernel_rfl) (by simp) ?_
      refine AllReadyH.cons rfl (fun K hK => ?_) (AllReadyH.cons rfl (fun K hK => ?_) (AllReadyH.nil))
      ·
        go_simp
        go_at_call 37; refine (HM.out _ (HRX.out _ (by (repeat (first | (with_reducible exact Below.refl _ _) | (with_reducible assumption) | (with_reducible refine Below.drew ?_) | ((with_reducible refine balloc ?_ _ ?_); · (first | (simp; done) | (simp; omega) | omega)) | ((with_reducible refine bset ?_ _ ?_); · (first | (simp; done) | (simp; omega) | omega)) | (with_reducible refine bdrewN _ ?_) | ((with_reducible refine bcall ?_ (by assumption) ?_); · (first | (simp; done) | (simp; omega) | omega))))))).mono ?_; rintro e wx ⟨rfl, rfl⟩
        refine hK.out _ _ ?_ (fun hHeld => ?_)
        · ((try dsimp only); (repeat' apply And.intro); all_goals ((repeat (first | (with_reducible refine cell_drew ?_) | (with_reducible refine cell_drewN _ ?_) | ((with_reducible refine cell_alloc ?_ ?_); · first | omega | (simp; done) | (simp; omega) | assumption) | ((with_reducible refine cell_set ?_ ?_); · first | (intro e; injection e; omega) | (intro e; simp at e; done) | (intro e; simp at e; omega)))); first | assumption | (simp; done)))
        clear hK K
        (try simp only [Act.put, List.setIfInBounds_toArray, List.set_cons_zero, List.set_cons_succ])
        refine wpAnyH_ready (rs := [3, 4]) (by kernel_rfl) (by simp) ?_
        refine AllReadyH.cons rfl (fun K hK => ?_) (AllReadyH.cons rfl (fun K hK => ?_) (AllReadyH.nil))
        ·
          go_simp
          go_at_call 36; refine (HS.out _ (HLX.out _ (by (repeat (first | (with_reducible exact Below.refl _ _) | (with_reducible assumption) | (with_reducible refine Below.drew ?_) | ((with_reducible refine balloc ?_ _ ?_); · (first | (simp; done) | (simp; omega) | omega)) | ((with_reducible refine bset ?_ _ ?_); · (first | (simp; done) | (simp; omega) | omega)) | (with_reducible refine bdrewN _ ?_) | ((with_reducible refine bcall ?_ (by assumption) ?_); · (first | (simp; done) | (simp; omega) | omega))))))).mono ?_; rintro e w2 ⟨rfl, hb2⟩; have s2 := hb2.size; (try simp at s2); have d2_0 : w2.cell? ⟨w.heap.size, 0, none⟩ = some (.int .i64 l) := (hb2.cell (p := ⟨w.heap.size, 0, none⟩) (by first | (simp; done) | (simp; omega) | omega)).trans (by first | assumption | (go_split_ands; assumption)); have d2_1 : w2.cell? ⟨w.heap.size, 1, none⟩ = some (.bool u) := (hb2.cell (p := ⟨w.heap.size, 1, none⟩) (by first | (simp; done) | (simp; omega) | omega)).trans (by first | assumption | (go_split_ands; assumption))
          refine hK.out _ _ ?_ (fun hHeld => ?_)
          · ((try dsimp only); (repeat' apply And.intro); all_goals ((repeat (first | (with_reducible refine cell_drew ?_) | (with_reducible refine cell_drewN _ ?_) | ((with_reducible refine cell_alloc ?_ ?_); · first | omega | (simp; done) | (simp; omega) | assumption) | ((with_reducible refine cell_set ?_ ?_); · first | (intro e; injection e; omega) | (intro e; simp at e; done) | (intro e; simp at e; omega)))); first | assumption | (simp; done)))
          clear hK K
          (try simp only [Act.put, List.setIfInBounds_toArray, List.set_cons_zero, List.set_cons_succ])
          refine wpAnyH_ready (rs := [4]) (by kernel_rfl) (by simp) ?_
          refine AllReadyH.cons rfl (fun K hK => ?_) (AllReadyH.nil)
          go_simp
          refine hK.out _ _ ?_ (fun hHeld => ?_)
          · ((try dsimp only); (repeat' apply And.intro); all_goals ((repeat (first | (with_reducible refine cell_drew ?_) | (with_reducible refine cell_drewN _ ?_) | ((with_reducible refine cell_alloc ?_ ?_); · first | omega | (simp; done) | (simp; omega) | assumption) | ((with_reducible refine cell_set ?_ ?_); · first | (intro e; injection e; omega) | (intro e; simp at e; done) | (intro e; simp at e; omega)))); first | assumption | (simp; done)))
          clear hK K
          (try simp only [Act.put, List.setIfInBounds_toArray, List.set_cons_zero, List.set_cons_succ])
          refine wpAnyH_ready (rs := [5]) (by kernel_rfl) (by simp) ?_
          refine AllReadyH.cons rfl (fun K' hK' => ?_) AllReadyH.nil
          first
            | (refine step_store_row rfl 63 (.tmp 9) (.tmp 31) rfl w2.heap.size V rfl rfl _ (arrN fun _ => 0) (HNEW.out w2) HVI.out HVZ.out HVO.out ?_
               have R1 : RowN ((w2.alloc (.cells zcN 63)).setRow w2.heap.size V) w2.heap.size (fun j => if j < N + 1 then vS l u j else 0) := by have h := setRow_heap _ _ _ V _ _ (HNEW.out w2); unfold RowN; rw [← HVR.out]; exact h
               have B1 : Below W1.heap.size W1 ((w2.alloc (.cells zcN 63)).setRow w2.heap.size V) := below_setRowN (((Below.refl W1.heap.size W1).drew.trans hb2).alloc (by omega) _) (by omega) _)
            | (have RR := HNEW1.out.below hb2 (by show w.heap.size + 1 < (W1.alloc (.cells zcN 63)).heap.size; simp; omega)
               refine step_store_row rfl 63 (.tmp 9) (.tmp 31) rfl (w.heap.size + 1) V rfl rfl _ (arrN fun _ => 0) RR HVI.out HVZ.out HVO.out ?_
               have R1 : RowN (w2.setRow (w.heap.size + 1) V) (w.heap.size + 1) (fun j => if j < N + 1 then vS l u j else 0) := by have h := setRow_heap _ _ _ V _ _ RR; unfold RowN; rw [← HVR.out]; exact h
               have B1 : Below W1.heap.size W1 (w2.setRow (w.heap.size + 1) V) := below_setRowN (((Below.refl W1.heap.size W1).alloc (Nat.le_refl _) (.cells zcN 63)).drew.trans (hb2.mono (by show W1.heap.size ≤ (W1.alloc (.cells zcN 63)).heap.size; simp))) (by omega) _)
          have e0 := (B1.cell (p := ⟨w.heap.size, 0, none⟩) (by show w.heap.size < W1.heap.size; omega)).trans cl0
          have e1 := (B1.cell (p := ⟨w.heap.size, 1, none⟩) (by show w.heap.size < W1.heap.size; omega)).trans cl1
          refine hK'.out _ _ ⟨e0, e1⟩ (fun _ => ?_)
          refine wpAnyH_done (by kernel_rfl) ?_ _
          exact HT.out _ _ R1 (bW1.trans (B1.mono (by omega))) (by omega) e0 e1
        ·
          go_simp
          refine hK.out _ _ ?_ (fun hHeld => ?_)
          · ((try dsimp only); (repeat' apply And.intro); all_goals ((repeat (first | (with_reducible refine cell_drew ?_) | (with_reducible refine cell_drewN _ ?_) | ((with_reducible refine cell_alloc ?_ ?_); · first | omega | (simp; done) | (simp; omega) | assumption) | ((with_reducible refine cell_set ?_ ?_); · first | (intro e; injection e; omega) | (intro e; simp at e; done) | (intro e; simp at e; omega)))); first | assumption | (simp; done)))
          clear hK K
          (try simp only [Act.put, List.setIfInBounds_toArray, List.set_cons_zero, List.set_cons_succ])
          refine wpAnyH_ready (rs := [3]) (by kernel_rfl) (by simp) ?_
          refine AllReadyH.cons rfl (fun K hK => ?_) (AllReadyH.nil)
          go_simp
          go_at_call 36; refine (HS.out _ (HLX.out _ (by (repeat (first | (with_reducible exact Below.refl _ _) | (with_reducible assumption) | (with_reducible refine Below.drew ?_) | ((with_reducible refine balloc ?_ _ ?_); · (first | (simp; done) | (simp; omega) | omega)) | ((with_reducible refine bset ?_ _ ?_); · (first | (simp; done) | (simp; omega) | omega)) | (with_reducible refine bdrewN _ ?_) | ((with_reducible refine bcall ?_ (by assumption) ?_); · (first | (simp; done) | (simp; omega) | omega))))))).mono ?_; rintro e w2 ⟨rfl, hb2⟩; have s2 := hb2.size; (try simp at s2); have d2_0 : w2.cell? ⟨w.heap.size, 0, none⟩ = some (.int .i64 l) := (hb2.cell (p := ⟨w.heap.size, 0, none⟩) (by first | (simp; done) | (simp; omega) | omega)).trans (by first | assumption | (go_split_ands; assumption)); have d2_1 : w2.cell? ⟨w.heap.size, 1, none⟩ = some (.bool u) := (hb2.cell (p := ⟨w.heap.size, 1, none⟩) (by first | (simp; done) | (simp; omega) | omega)).trans (by first | assumption | (go_split_ands; assumption))
          refine hK.out _ _ ?_ (fun hHeld => ?_)
          · ((try dsimp only); (repeat' apply And.intro); all_goals ((repeat (first | (with_reducible refine cell_drew ?_) | (with_reducible refine cell_drewN _ ?_) | ((with_reducible refine cell_alloc ?_ ?_); · first | omega | (simp; done) | (simp; omega) | assumption) | ((with_reducible refine cell_set ?_ ?_); · first | (intro e; injection e; omega) | (intro e; simp at e; done) | (intro e; simp at e; omega)))); first | assumption | (simp; done)))
          clear hK K
          (try simp only [Act.put, List.setIfInBounds_toArray, List.set_cons_zero, List.set_cons_succ])
          refine wpAnyH_ready (rs := [5]) (by kernel_rfl) (by simp) ?_
          refine AllReadyH.cons rfl (fun K' hK' => ?_) AllReadyH.nil
          first
            | (refine step_store_row rfl 63 (.tmp 9) (.tmp 31) rfl w2.heap.size V rfl rfl _ (arrN fun _ => 0) (HNEW.out w2) HVI.out HVZ.out HVO.out ?_
               have R1 : RowN ((w2.alloc (.cells zcN 63)).setRow w2.heap.size V) w2.heap.size (fun j => if j < N + 1 then vS l u j else 0) := by have h := setRow_heap _ _ _ V _ _ (HNEW.out w2); unfold RowN; rw [← HVR.out]; exact h
               have B1 : Below W1.heap.size W1 ((w2.alloc (.cells zcN 63)).setRow w2.heap.size V) := below_setRowN (((Below.refl W1.heap.size W1).drew.trans hb2).alloc (by omega) _) (by omega) _)
            | (have RR := HNEW1.out.below hb2 (by show w.heap.size + 1 < (W1.alloc (.cells zcN 63)).heap.size; simp; omega)
               refine step_store_row rfl 63 (.tmp 9) (.tmp 31) rfl (w.heap.size + 1) V rfl rfl _ (arrN fun _ => 0) RR HVI.out HVZ.out HVO.out ?_
               have R1 : RowN (w2.setRow (w.heap.size + 1) V) (w.heap.size + 1) (fun j => if j < N + 1 then vS l u j else 0) := by have h := setRow_heap _ _ _ V _ _ RR; unfold RowN; rw [← HVR.out]; exact h
               have B1 : Below W1.heap.size W1 (w2.setRow (w.heap.size + 1) V) := below_setRowN (((Below.refl W1.heap.size W1).alloc (Nat.le_refl _) (.cells zcN 63)).drew.trans (hb2.mono (by show W1.heap.size ≤ (W1.alloc (.cells zcN 63)).heap.size; simp))) (by omega) _)
          have e0 := (B1.cell (p := ⟨w.heap.size, 0, none⟩) (by show w.heap.size < W1.heap.size; omega)).trans cl0
          have e1 := (B1.cell (p := ⟨w.heap.size, 1, none⟩) (by show w.heap.size < W1.heap.size; omega)).trans cl1
          refine hK'.out _ _ ⟨e0, e1⟩ (fun _ => ?_)
          refine wpAnyH_done (by kernel_rfl) ?_ _
          exact HT.out _ _ R1 (bW1.trans (B1.mono (by omega))) (by omega) e0 e1
      ·
        go_simp
        refine hK.out _ _ ?_ (fun hHeld => ?_)
        · ((try dsimp only); (repeat' apply And.intro); all_goals ((repeat (first | (with_reducible refine cell_drew ?_) | (with_reducible refine cell_drewN _ ?_) | ((with_reducible refine cell_alloc ?_ ?_); · first | omega | (simp; done) | (simp; omega) | assumption) | ((with_reducible refine cell_set ?_ ?_); · first | (intro e; injection e; omega) | (intro e; simp at e; done) | (intro e; simp at e; omega)))); first | assumption | (simp; done)))
        clear hK K
        (try simp only [Act.put, List.setIfInBounds_toArray, List.set_cons_zero, List.set_cons_succ])
        refine wpAnyH_ready (rs := [1]) (by kernel_rfl) (by simp) ?_
        refine AllReadyH.cons rfl (fun K hK => ?_) (AllReadyH.nil)
        go_simp
        go_at_call 37; refine (HM.out _ (HRX.out _ (by (repeat (first | (with_reducible exact Below.refl _ _) | (with_reducible assumption) | (with_reducible refine Below.drew ?_) | ((with_reducible refine balloc ?_ _ ?_); · (first | (simp; done) | (simp; omega) | omega)) | ((with_reducible refine bset ?_ _ ?_); · (first | (simp; done) | (simp; omega) | omega)) | (with_reducible refine bdrewN _ ?_) | ((with_reducible refine bcall ?_ (by assumption) ?_); · (first | (simp; done) | (simp; omega) | omega))))))).mono ?_; rintro e wx ⟨rfl, rfl⟩
        refine hK.out _ _ ?_ (fun hHeld => ?_)
        · ((try dsimp only); (repeat' apply And.intro); all_goals ((repeat (first | (with_reducible refine cell_drew ?_) | (with_reducible refine cell_drewN _ ?_) | ((with_reducible refine cell_alloc ?_ ?_); · first | omega | (simp; done) | (simp; omega) | assumption) | ((with_reducible refine cell_set ?_ ?_); · first | (intro e; injection e; omega) | (intro e; simp at e; done) | (intro e; simp at e; omega)))); first | assumption | (simp; done)))
        clear hK K
        (try simp only [Act.put, List.setIfInBounds_toArray, List.set_cons_zero, List.set_cons_succ])
        refine wpAnyH_ready (rs := [3]) (by kernel_rfl) (by simp) ?_
        refine AllReadyH.cons rfl (fun K hK => ?_) (AllReadyH.nil)
        go_simp
        go_at_call 36; refine (HS.out _ (HLX.out _ (by (repeat (first | (with_reducible exact Below.refl _ _) | (with_reducible assumption) | (with_reducible refine Below.drew ?_) | ((with_reducible refine balloc ?_ _ ?_); · (first | (simp; done) | (simp; omega) | omega)) | ((with_reducible refine bset ?_ _ ?_); · (first | (simp; done) | (simp; omega) | omega)) | (with_reducible refine bdrewN _ ?_) | ((with_reducible refine bcall ?_ (by assumption) ?_); · (first | (simp; done) | (simp; omega) | omega))))))).mono ?_; rintro e w2 ⟨rfl, hb2⟩; have s2 := hb2.size; (try simp at s2); have d2_0 : w2.cell? ⟨w.heap.size, 0, none⟩ = some (.int .i64 l) := (hb2.cell (p := ⟨w.heap.size, 0, none⟩) (by first | (simp; done) | (simp; omega) | omega)).trans (by first | assumption | (go_split_ands; assumption)); have d2_1 : w2.cell? ⟨w.heap.size, 1, none⟩ = some (.bool u) := (hb2.cell (p := ⟨w.heap.size, 1, none⟩) (by first | (simp; done) | (simp; omega) | omega)).trans (by first | assumption | (go_split_ands; assumption))
        refine hK.out _ _ ?_ (fun hHeld => ?_)
        · ((try dsimp only); (repeat' apply And.intro); all_goals ((repeat (first | (with_reducible refine cell_drew ?_) | (with_reducible refine cell_drewN _ ?_) | ((with_reducible refine cell_alloc ?_ ?_); · first | omega | (simp; done) | (simp; omega) | assumption) | ((with_reducible refine cell_set ?_ ?_); · first | (intro e; injection e; omega) | (intro e; simp at e; done) | (intro e; simp at e; omega)))); first | assumption | (simp; done)))
        clear hK K
        (try simp only [Act.put, List.setIfInBounds_toArray, List.set_cons_zero, List.set_cons_succ])
        refine wpAnyH_ready (rs := [5]) (by kernel_rfl) (by simp) ?_
        refine AllReadyH.cons rfl (fun K' hK' => ?_) AllReadyH.nil
        first
          | (refine step_store_row rfl 63 (.tmp 9) (.tmp 31) rfl w2.heap.size V rfl rfl _ (arrN fun _ => 0) (HNEW.out w2) HVI.out HVZ.out HVO.out ?_
             have R1 : RowN ((w2.alloc (.cells zcN 63)).setRow w2.heap.size V) w2.heap.size (fun j => if j < N + 1 then vS l u j else 0) := by have h := setRow_heap _ _ _ V _ _ (HNEW.out w2); unfold RowN; rw [← HVR.out]; exact h
             have B1 : Below W1.heap.size W1 ((w2.alloc (.cells zcN 63)).setRow w2.heap.size V) := below_setRowN (((Below.refl W1.heap.size W1).drew.trans hb2).alloc (by omega) _) (by omega) _)
          | (have RR := HNEW1.out.below hb2 (by show w.heap.size + 1 < (W1.alloc (.cells zcN 63)).heap.size; simp; omega)
             refine step_store_row rfl 63 (.tmp 9) (.tmp 31) rfl (w.heap.size + 1) V rfl rfl _ (arrN fun _ => 0) RR HVI.out HVZ.out HVO.out ?_
             have R1 : RowN (w2.setRow (w.heap.size + 1) V) (w.heap.size + 1) (fun j => if j < N + 1 then vS l u j else 0) := by have h := setRow_heap _ _ _ V _ _ RR; unfold RowN; rw [← HVR.out]; exact h
             have B1 : Below W1.heap.size W1 (w2.setRow (w.heap.size + 1) V) := below_setRowN (((Below.refl W1.heap.size W1).alloc (Nat.le_refl _) (.cells zcN 63)).drew.trans (hb2.mono (by show W1.heap.size ≤ (W1.alloc (.cells zcN 63)).heap.size; simp))) (by omega) _)
        have e0 := (B1.cell (p := ⟨w.heap.size, 0, none⟩) (by show w.heap.size < W1.heap.size; omega)).trans cl0
        have e1 := (B1.cell (p := ⟨w.heap.size, 1, none⟩) (by show w.heap.size < W1.heap.size; omega)).trans cl1
        refine hK'.out _ _ ⟨e0, e1⟩ (fun _ => ?_)
        refine wpAnyH_done (by kernel_rfl) ?_ _
        exact HT.out _ _ R1 (bW1.trans (B1.mono (by omega))) (by omega) e0 e1

end Go.Proofs.YtcocdidkkcjbgaaDoor
