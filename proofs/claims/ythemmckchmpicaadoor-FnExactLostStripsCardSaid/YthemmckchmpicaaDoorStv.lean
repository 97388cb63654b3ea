/-
  Contracts: StripValue, LostStrips of the program and of the model. Condition: where the program has laid its errors.
-/
import Derived.Test.YthemmckchmpicaaDoorNos
namespace Go.Proofs.YthemmckchmpicaaDoor
open Go.RowKit
set_option linter.unusedVariables false
set_option linter.unusedSimpArgs false

/-- the values up to N, as an array of the program's -/
abbrev vA (l : Int) (u : Bool) (N : Nat) : Array Value := arrN fun j => if j < N + 1 then vS l u j else 0

set_option maxRecDepth 100000 in
set_option maxHeartbeats 4000000 in
theorem stripValues_any (N : Nat) (l : Int) (u : Bool) (a0 : Addr) (w : World) (hL : LaidE w a0) (h1 : 1 ≤ N) (h2 : N ≤ 60) (h3 : 1 ≤ l) (h4 : l ≤ 60) :
    Calls Tryd.prog 18 #[.int .i64 N, rul l u] w fun e w' => e = .returned (.agg (vA l u N)) ∧ Below w.heap.size w w' := by
  have hng := hL.2.2
  have zc : zcN = arrN (fun _ => 0) := zcN_arr
  have w2b : Below w.heap.size w ((w.alloc (.cells #[.int .i64 l, .bool u] 37)).alloc (.cells zcN 34)) := by (repeat (first | (with_reducible exact Below.refl _ _) | (with_reducible assumption) | (with_reducible refine Below.drew ?_) | ((with_reducible refine balloc ?_ _ ?_); · (first | (simp; done) | (simp; omega) | omega)) | ((with_reducible refine bset ?_ _ ?_); · (first | (simp; done) | (simp; omega) | omega)) | (with_reducible refine bdrewN _ ?_) | ((with_reducible refine bcall ?_ (by assumption) ?_); · (first | (simp; done) | (simp; omega) | omega))))
  have c1 : ((w.alloc (.cells #[.int .i64 l, .bool u] 37)).alloc (.cells zcN 34)).cell? ⟨w.heap.size, 0, none⟩ = some (.int .i64 l) := by rw [World.cell?_alloc_lt _ _ _ (by simp)]; simp [go_sem]
  have c2 : ((w.alloc (.cells #[.int .i64 l, .bool u] 37)).alloc (.cells zcN 34)).cell? ⟨w.heap.size, 1, none⟩ = some (.bool u) := by rw [World.cell?_alloc_lt _ _ _ (by simp)]; simp [go_sem]
  have r1 : RowN ((w.alloc (.cells #[.int .i64 l, .bool u] 37)).alloc (.cells zcN 34)) (w.heap.size + 1) (fun _ => 0) := by
    rw [zc]
    have h := RowN.new (w.alloc (.cells #[.int .i64 l, .bool u] 37)) (fun _ => 0)
    rwa [show (w.alloc (.cells #[.int .i64 l, .bool u] 37)).heap.size = w.heap.size + 1 by simp] at h
  have sz0 : ((w.alloc (.cells #[.int .i64 l, .bool u] 37)).alloc (.cells zcN 34)).heap.size = w.heap.size + 2 := by simp
  have C1 := Lib.hid c1
  have C2 := Lib.hid c2
  have R1 := Lib.hid r1
  have SZ0 := Lib.hid sz0
  have HL0 := Lib.hid (hL.later w2b hng (by rw [sz0]; omega))
  clear r1 sz0 zc hL
  have hzf := fun wx => zeroN wx
  have hze := zcN_ne
  go_enter Tryd.func18, Tryd.ntmps18
  go_wp2_with fail
  refine (nosV_any N l u a0 _ HL0.out h1 h2 h3 h4).mono ?_; rintro e w3 ⟨rfl, hb3⟩
  have h3' : w.heap.size + 2 ≤ w3.heap.size := by have := hb3.size; rw [SZ0.out] at this; exact this
  have hrow := R1.out.below hb3 (by rw [SZ0.out]; omega)
  have HSET := Lib.hid (setRow_heap w3 (w.heap.size + 1) _ (vA l u N) _ _ hrow)
  have HBR := Lib.hid (below_setRowN (w2b.trans (hb3.mono (by rw [SZ0.out]; omega))) (show w.heap.size ≤ w.heap.size + 1 by omega) (vA l u N))
  have H1 := Lib.hid hrow
  clear hrow hb3 c1 c2 hzf hze
  go_wp2_with (refine wpList_store_row rfl 34 (.tmp 4) (.tmp 7) rfl (w.heap.size + 1) (vA l u N) rfl rfl _ _ H1.out (by rw [size_arrN]; kernel_rfl) (by rw [size_arrN, size_arrN]) (oneCell_arrN _) ?_)
  refine bodyPost_ret (v := .agg (vA l u N)) (results_cell_row Tryd.results18 _ _ (w.heap.size + 1) _ _ _ _ rfl HSET.out Tryd.underlying34 rfl (by rw [size_arrN]; kernel_rfl)) rfl ⟨rfl, HBR.out⟩

theorem idxN (f : Nat → Int) (w : World) : ∀ k : Nat, k < 61 → (Instr.index 34 (.agg (arrN f)) (.int .i64 k)).run Tryd.prog w = .ok (.int .i64 (f k)) w
  | 0, _ => by kernel_rfl
  | 1, _ => by kernel_rfl
  | 2, _ => by kernel_rfl
  | 3, _ => by kernel_rfl
  | 4, _ => by kernel_rfl
  | 5, _ => by kernel_rfl
  | 6, _ => by kernel_rfl
  | 7, _ => by kernel_rfl
  | 8, _ => by kernel_rfl
  | 9, _ => by kernel_rfl
  | 10, _ => by kernel_rfl
  | 11, _ => by kernel_rfl
  | 12, _ => by kernel_rfl
  | 13, _ => by kernel_rfl
  | 14, _ => by kernel_rfl
  | 15, _ => by kernel_rfl
  | 16, _ => by kernel_rfl
  | 17, _ => by kernel_rfl
  | 18, _ => by kernel_rfl
  | 19, _ => by kernel_rfl
  | 20, _ => by kernel_rfl
  | 21, _ => by kernel_rfl
  | 22, _ => by kernel_rfl
  | 23, _ => by kernel_rfl
  | 24, _ => by kernel_rfl
  | 25, _ => by kernel_rfl
  | 26, _ => by kernel_rfl
  | 27, _ => by kernel_rfl
  | 28, _ => by kernel_rfl
  | 29, _ => by kernel_rfl
  | 30, _ => by kernel_rfl
  | 31, _ => by kernel_rfl
  | 32, _ => by kernel_rfl
  | 33, _ => by kernel_rfl
  | 34, _ => by kernel_rfl
  | 35, _ => by kernel_rfl
  | 36, _ => by kernel_rfl
  | 37, _ => by kernel_rfl
  | 38, _ => by kernel_rfl
  | 39, _ => by kernel_rfl
  | 40, _ => by kernel_rfl
  | 41, _ => by kernel_rfl
  | 42, _ => by kernel_rfl
  | 43, _ => by kernel_rfl
  | 44, _ => by kernel_rfl
  | 45, _ => by kernel_rfl
  | 46, _ => by kernel_rfl
  | 47, _ => by kernel_rfl
  | 48, _ => by kernel_rfl
  | 49, _ => by kernel_rfl
  | 50, _ => by kernel_rfl
  | 51, _ => by kernel_rfl
  | 52, _ => by kernel_rfl
  | 53, _ => by kernel_rfl
  | 54, _ => by kernel_rfl
  | 55, _ => by kernel_rfl
  | 56, _ => by kernel_rfl
  | 57, _ => by kernel_rfl
  | 58, _ => by kernel_rfl
  | 59, _ => by kernel_rfl
  | 60, _ => by kernel_rfl
  | k + 61, h => absurd h (by omega)

def svN (long l : Int) (u : Bool) : Int := if okS long l then vS l u long.toNat else 0
theorem svN_no {long l : Int} {u : Bool} (h : okS long l = false) : svN long l u = 0 := by simp [svN, h]
theorem svN_yes {N : Nat} {l : Int} {u : Bool} (h : okS N l = true) : svN N l u = vS l u N := by simp [svN, h]

set_option maxRecDepth 100000 in
set_option maxHeartbeats 4000000 in
theorem stripValue_any (long l : Int) (u : Bool) (w : World) (a0 : Addr) (hL : LaidE w a0) :
    Calls Tryd.prog 7 #[.int .i64 long, .int .i64 l, .bool u] w fun e w' => e = .returned (.tuple #[.int .i64 (svN long l u), .bool (okS long l)]) ∧ Below w.heap.size w w' := by
  cases hk : okS long l
  · rw [svN_no hk]
    cases h1 : inB long 1 60
    · go_enter Tryd.func7, Tryd.ntmps7
      go_wp2_with fail
      refine (isLen_any _ _).mono ?_; rintro e wx ⟨rfl, rfl⟩
      go_wp2
      go_ret2
      exact ⟨rfl, Below.refl _ _⟩
    · have h2 : inB l 1 60 = false := by simpa [okS, h1] using hk
      go_enter Tryd.func7, Tryd.ntmps7
      go_wp2_with fail
      refine (isLen_any _ _).mono ?_; rintro e wx ⟨rfl, rfl⟩
      go_wp2_with fail
      refine (isLen_any _ _).mono ?_; rintro e wx ⟨rfl, rfl⟩
      go_wp2
      go_ret2
      exact ⟨rfl, Below.refl _ _⟩
  · obtain ⟨h1, h2, h3, h4⟩ := okS_true hk
    obtain ⟨N, rfl⟩ : ∃ N : Nat, long = N := ⟨long.toNat, by omega⟩
    rw [svN_yes hk]
    have b1 : inB N 1 60 = true := by simp [inB]; omega
    have b2 : inB l 1 60 = true := by simp [inB]; omega
    have HS := Lib.hid (stripValues_any N l u a0 w hL (by omega) (by omega) h3 h4)
    have hix := fun wx => idxN (fun j => if j < N + 1 then vS l u j else 0) wx N (by omega)
    rw [show (if N < N + 1 then vS l u N else 0) = vS l u N from if_pos (by omega)] at hix
    clear hk
    go_enter Tryd.func7, Tryd.ntmps7
    go_wp2_with fail
    refine (isLen_any _ _).mono ?_; rintro e wx ⟨rfl, rfl⟩
    go_wp2_with fail
    refine (isLen_any _ _).mono ?_; rintro e wx ⟨rfl, rfl⟩
    go_wp2_with fail
    refine HS.out.mono ?_; rintro e w2 ⟨rfl, hb2⟩
    go_wp2
    go_ret2
    exact ⟨rfl, hb2⟩

set_option maxRecDepth 100000 in
set_option maxHeartbeats 4000000 in
theorem sStripValue_any (long l : Int) (u : Bool) (w : World) :
    Calls Tryd.prog 6 #[.int .i64 long, .int .i64 l, .bool u] w fun e w' => e = .returned (.tuple #[.int .i64 (svN long l u), .bool (okS long l)]) ∧ Below w.heap.size w w' := by
  cases hk : okS long l
  · rw [svN_no hk]
    go_enter Tryd.func6, Tryd.ntmps6
    go_wp2_with fail
    refine (laStrip_any _ _ _).mono ?_; rintro e wx ⟨rfl, rfl⟩
    go_wp2
    go_ret2
    exact ⟨rfl, Below.refl _ _⟩
  · obtain ⟨h1, h2, h3, h4⟩ := okS_true hk
    obtain ⟨N, rfl⟩ : ∃ N : Nat, long = N := ⟨long.toNat, by omega⟩
    rw [svN_yes hk]
    have hN1 : (N : Int) < (N : Int) + 1 := by omega
    go_enter Tryd.func6, Tryd.ntmps6
    go_wp2_with fail
    refine (laStrip_any _ _ _).mono ?_; rintro e wx ⟨rfl, rfl⟩
    go_wp2_with fail
    clear hk
    refine (laValues_any N l u _ (by omega) (by omega) h3 h4).mono ?_; rintro e w2 ⟨g, rfl, own2, hb2⟩
    have hc := own2.cellAt N (by omega)
    rw [tabF_cell _ (Nat.le_refl _)] at hc
    have HB := Lib.hid hb2
    clear own2 hb2
    go_wp2
    go_ret2
    exact ⟨rfl, HB.out⟩

/-- the lost lengths up to k -/
def losT (l : Int) (u : Bool) : Nat → List Int
  | 0 => []
  | k + 1 => losT l u k ++ (if vS l u (k + 1) = 0 then [((k : Int) + 1)] else [])
def losR (most l : Int) (u : Bool) : List Int := if okS most l then losT l u most.toNat else []
theorem losT_yes {l : Int} {u : Bool} {k : Nat} (h : vS l u (k + 1) = 0) : losT l u (k + 1) = losT l u k ++ [((k : Int) + 1)] := by rw [losT, if_pos h]
theorem losT_no {l : Int} {u : Bool} {k : Nat} (h : ¬ vS l u (k + 1) = 0) : losT l u (k + 1) = losT l u k := by rw [losT, if_neg h, List.append_nil]
theorem length_losT (l : Int) (u : Bool) (k : Nat) : (losT l u k).length ≤ k := by
  induction k with
  | zero => simp [losT]
  | succ k ih => simp only [losT, List.length_append]; split <;> simp <;> omega
theorem losR_no {most l : Int} {u : Bool} (h : okS most l = false) : losR most l u = [] := by simp [losR, h]
theorem losR_yes {N : Nat} {l : Int} {u : Bool} (h : okS N l = true) : losR N l u = losT l u N := by simp [losR, h]
theorem length_losR (most l : Int) (u : Bool) : (losR most l u).length ≤ 60 := by
  unfold losR
  split
  · rename_i h
    have := okS_true h
    exact Nat.le_trans (length_losT _ _ _) (by omega)
  · simp

set_option maxRecDepth 100000 in
set_option maxHeartbeats 4000000 in
theorem lostStrips_any (most l : Int) (u : Bool) (w : World) (a0 : Addr) (hL : LaidE w a0) :
    Calls Tryd.prog 14 #[.int .i64 most, .int .i64 l, .bool u] w fun e w' => ∃ A n c, e = .returned (.tuple #[.slice A n c, .bool (okS most l)]) ∧ w'.ownsRow w.heap.size 3 1 (.slice A n c) n (intCells (losR most l u)) ∧ Below w.heap.size w w' := by
  obtain ⟨i0, hi, hz0, hz1, hz2⟩ := info_parts intS_info
  cases hk : okS most l
  · rw [losR_no hk]
    cases h1 : inB most 1 60
    · go_enter Tryd.func14, Tryd.ntmps14
      go_wp2_with fail
      refine (isLen_any _ _).mono ?_; rintro e wx ⟨rfl, rfl⟩
      go_wp2
      go_ret2
      exact ⟨none, 0, 0, rfl, World.ownsRow_nil _ _ _ _, Below.refl _ _⟩
    · have h2 : inB l 1 60 = false := by simpa [okS, h1] using hk
      go_enter Tryd.func14, Tryd.ntmps14
      go_wp2_with fail
      refine (isLen_any _ _).mono ?_; rintro e wx ⟨rfl, rfl⟩
      go_wp2_with fail
      refine (isLen_any _ _).mono ?_; rintro e wx ⟨rfl, rfl⟩
      go_wp2
      go_ret2
      exact ⟨none, 0, 0, rfl, World.ownsRow_nil _ _ _ _, Below.refl _ _⟩
  · obtain ⟨h1, h2, h3, h4⟩ := okS_true hk
    obtain ⟨N, rfl⟩ : ∃ N : Nat, most = N := ⟨most.toNat, by omega⟩
    rw [losR_yes hk]
    have b1 : inB N 1 60 = true := by simp [inB]; omega
    have b2 : inB l 1 60 = true := by simp [inB]; omega
    have HS := Lib.hid (stripValues_any N l u a0 w hL (by omega) (by omega) h3 h4)
    clear hk
    go_enter Tryd.func14, Tryd.ntmps14
    go_wp2_with fail
    refine (isLen_any _ _).mono ?_; rintro e wx ⟨rfl, rfl⟩
    go_wp2_with fail
    refine (isLen_any _ _).mono ?_; rintro e wx ⟨rfl, rfl⟩
    go_wp2_with fail
    refine HS.out.mono ?_; rintro e w2 ⟨rfl, hb2⟩
    have zc : zcN = arrN (fun _ => 0) := zcN_arr
    have rn := RowN.new w2 (fun _ => 0)
    rw [← zc] at rn
    have HRN := Lib.hid rn
    have HSET := Lib.hid (setRow_heap (w2.alloc (.cells zcN 34)) w2.heap.size _ (vA l u N) _ _ rn)
    have HBS := Lib.hid (below_setRowN (hb2.alloc hb2.size (.cells zcN 34)) hb2.size (vA l u N))
    have HSZ : Hid (((w2.alloc (.cells zcN 34)).setRow w2.heap.size (vA l u N)).heap.size = w2.heap.size + 1) := by simp [Hid, World.setRow]
    have HS2 := Lib.hid hb2.size
    have hzf := fun wx => zeroN wx
    have hze := zcN_ne
    clear rn hb2 zc
    go_wp2_with (refine wpList_store_row rfl 34 (.tmp 8) (.tmp 23) rfl w2.heap.size (vA l u N) rfl rfl _ _ HRN.out (by rw [size_arrN]; kernel_rfl) (by rw [size_arrN, size_arrN]) (oneCell_arrN _) ?_)
    clear hzf hze
    generalize (w2.alloc (.cells zcN 34)).setRow w2.heap.size (vA l u N) = w3 at *
    have hs2 := HS2.out
    have hsz : w2.heap.size < w3.heap.size := by have := HSZ.out; omega
    go_loopw [9, 10] (fun v i wr => ∃ (k n : Nat) (A : Option Addr) (c : Nat), k ≤ N ∧ n ≤ k ∧ i = .int .i64 ((k : Int) + 1) ∧ v = .slice A n c ∧ wr.ownsRow w3.heap.size 3 1 (.slice A n c) n (intCells (losT l u k)) ∧ Below w3.heap.size w3 wr) (fun _ i _ => 62 - (intOf i).toNat)
    case atStart => exact ⟨0, 0, none, 0, by omega, by omega, rfl, rfl, World.ownsRow_nil _ _ _ _, Below.refl _ _⟩
    case round =>
      obtain ⟨k, n, A, c, hk, hnk, rfl, rfl, hown, hB⟩ := hrel
      have sB := hB.size
      have hrow : RowN w3 w2.heap.size (fun j => if j < N + 1 then vS l u j else 0) := HSET.out
      by_cases hlt : k < N
      · have hlti : (k : Int) + 1 ≤ (N : Int) := by omega
        have pc := (hrow.below hB (by omega)).cell (k := k + 1) (by omega)
        rw [if_pos (by omega)] at pc
        have y1 : (k : Int) + 1 < 61 := by omega
        have y2 : k + 1 < 61 := by omega
        have hgl : w2.heap.size < wr.heap.size := by omega
        clear hrow
        by_cases hv : vS l u (k + 1) = 0
        · have HY := Lib.hid (losT_yes hv)
          have tv : (vS l u (k + 1) == 0) = true := by simpa using hv
          have hc3 : n + 1 ≤ maxLen := by simp only [maxLen]; omega
          generalize vS l u (k + 1) = v at *
          clear hv
          go_wp2_with (at_builtin; refine wpList_append_own _ rfl (.tmp 33) (.tmp 35) 25 rfl w3.heap.size 3 i0 (.int .i64 0) 1 8 Tryd.underlying25 hi hz0 hz1 hz2 rfl (by decide) _ _ _ rfl (hown.alloc _) ⟨wr.heap.size, 0, none⟩ 1 1 [.int .i64 ((k : Int) + 1)] rfl rfl (new1 _ _ _) (int_oneCell [_]) hc3 (by omega) (Nat.le_trans sB (by simp)) ?_)
          intro v' w4 hown' hgrow _
          have hb4 := bgrow (hB.alloc sB (.cells #[.int .i64 ((k : Int) + 1)] 3)) (hown.alloc _) hgrow (by simp; omega)
          obtain ⟨A', c', rfl⟩ := own_slice hown'
          have HO4 := Lib.hid hown'
          have HB4 := Lib.hid hb4
          clear hown' hb4 hgrow hown hB pc
          go_wp2
          go_roundw
          case rel => exact ⟨k + 1, n + 1, A', c', by omega, by omega, by go_num, rfl, by rw [HY.out, intCells_append]; exact HO4.out, HB4.out⟩
          case measure => simp [intOf]; omega
        · have HY := Lib.hid (losT_no hv)
          have tv : (vS l u (k + 1) == 0) = false := by simpa using hv
          generalize vS l u (k + 1) = v at *
          have HO := Lib.hid hown
          have HB := Lib.hid hB
          clear hv hown hB
          go_wp2
          go_roundw
          case rel => exact ⟨k + 1, n, A, c, by omega, by omega, by go_num, rfl, by rw [HY.out]; exact HO.out, HB.out⟩
          case measure => simp [intOf]; omega
      · obtain rfl : k = N := by omega
        have hlti : ¬ (k : Int) + 1 ≤ (k : Int) := by omega
        have HO := Lib.hid hown
        have HB := Lib.hid hB
        clear hown hB hrow
        go_wp2
        go_ret2
        exact ⟨A, n, c, rfl, own_base HO.out (by omega), HBS.out.trans (HB.out.mono (by omega))⟩

set_option maxRecDepth 100000 in
set_option maxHeartbeats 4000000 in
theorem sLostStrips_any (most l : Int) (u : Bool) (w : World) :
    Calls Tryd.prog 13 #[.int .i64 most, .int .i64 l, .bool u] w fun e w' => ∃ A n c, e = .returned (.tuple #[.slice A n c, .bool (okS most l)]) ∧ w'.ownsRow w.heap.size 3 1 (.slice A n c) n (intCells (losR most l u)) ∧ Below w.heap.size w w' := by
  obtain ⟨i0, hi, hz0, hz1, hz2⟩ := info_parts intS_info
  cases hk : okS most l
  · rw [losR_no hk]
    go_enter Tryd.func13, Tryd.ntmps13
    go_wp2_with fail
    refine (laStrip_any _ _ _).mono ?_; rintro e wx ⟨rfl, rfl⟩
    go_wp2
    go_ret2
    exact ⟨none, 0, 0, rfl, World.ownsRow_nil _ _ _ _, Below.refl _ _⟩
  · obtain ⟨h1, h2, h3, h4⟩ := okS_true hk
    obtain ⟨N, rfl⟩ : ∃ N : Nat, most = N := ⟨most.toNat, by omega⟩
    rw [losR_yes hk]
    go_enter Tryd.func13, Tryd.ntmps13
    go_wp2_with fail
    refine (laStrip_any _ _ _).mono ?_; rintro e wx ⟨rfl, rfl⟩
    go_wp2_with fail
    clear hk
    refine (laValues_any N l u _ (by omega) (by omega) h3 h4).mono ?_; rintro e w2 ⟨g, rfl, own2, hb2⟩
    have s2 := hb2.size
    have HB2 := Lib.hid hb2
    have HO2 := Lib.hid own2
    have hgl2 := (own2.lt g (by simp [Value.ownBlock])).2
    clear own2 hb2
    go_wp2
    go_loopw [8, 20] (fun v i wr => ∃ (k n : Nat) (A : Option Addr) (c : Nat), k ≤ N + 1 ∧ n ≤ k ∧ i = .int .i64 k ∧ v = .slice A n c ∧ wr.ownsRow w2.heap.size 3 1 (.slice A n c) n (intCells (losT l u (k - 1))) ∧ Below w2.heap.size w2 wr) (fun _ i _ => N + 1 - (intOf i).toNat)
    case atStart => exact ⟨0, 0, none, 0, by omega, by omega, rfl, rfl, World.ownsRow_nil _ _ _ _, Below.refl _ _⟩
    case round =>
      obtain ⟨k, n, A, c, hk, hnk, rfl, rfl, hown, hB⟩ := hrel
      have sB := hB.size
      by_cases hlt : k < N + 1
      · have hlti : (k : Int) < (N : Int) + 1 := by omega
        have pc := (own_later HO2.out hB (Nat.le_refl _)).cellAt k (by omega)
        rw [tabF_cell _ (by omega)] at pc
        have hgl : g < wr.heap.size := by omega
        by_cases h0 : k = 0
        · subst h0
          have HO := Lib.hid hown
          have HB := Lib.hid hB
          have hn0 : n = 0 := by omega
          subst hn0
          generalize vS l u 0 = v at *
          clear hown hB
          go_wp2
          go_roundw
          case rel => exact ⟨1, 0, A, c, by omega, by omega, by go_num, rfl, HO.out, HB.out⟩
          case measure => simp [intOf]
        · obtain ⟨q, rfl⟩ : ∃ q, k = q + 1 := ⟨k - 1, by omega⟩
          have d0 : decide (0 < ((q + 1 : Nat) : Int)) = true := decide_eq_true (by omega)
          have d1 : decide (0 < ((q : Int) + 1)) = true := decide_eq_true (by omega)
          by_cases hv : vS l u (q + 1) = 0
          · have HY := Lib.hid (losT_yes hv)
            have tv : (vS l u (q + 1) == 0) = true := by simpa using hv
            have hc3 : n + 1 ≤ maxLen := by simp only [maxLen]; omega
            generalize vS l u (q + 1) = v at *
            clear hv
            go_wp2_with (at_builtin; refine wpList_append_own _ rfl (.tmp 31) (.tmp 33) 25 rfl w2.heap.size 3 i0 (.int .i64 0) 1 8 Tryd.underlying25 hi hz0 hz1 hz2 rfl (by decide) _ _ _ rfl (hown.alloc _) ⟨wr.heap.size, 0, none⟩ 1 1 [.int .i64 ((q : Int) + 1)] rfl rfl (new1 _ _ _) (int_oneCell [_]) hc3 (by omega) (Nat.le_trans sB (by simp)) ?_)
            intro v' w4 hown' hgrow _
            have hb4 := bgrow (hB.alloc sB (.cells #[.int .i64 ((q : Int) + 1)] 3)) (hown.alloc _) hgrow (by simp; omega)
            obtain ⟨A', c', rfl⟩ := own_slice hown'
            have HO4 := Lib.hid hown'
            have HB4 := Lib.hid hb4
            clear hown' hb4 hgrow hown hB pc d0 d1
            go_wp2
            go_roundw
            case rel => exact ⟨q + 1 + 1, n + 1, A', c', by omega, by omega, by go_num, rfl, by rw [show q + 1 + 1 - 1 = q + 1 by omega, HY.out, intCells_append]; exact HO4.out, HB4.out⟩
            case measure => simp [intOf]; omega
          · have HY := Lib.hid (losT_no hv)
            have tv : (vS l u (q + 1) == 0) = false := by simpa using hv
            generalize vS l u (q + 1) = v at *
            have HO := Lib.hid hown
            have HB := Lib.hid hB
            clear hv hown hB
            go_wp2
            go_roundw
            case rel => exact ⟨q + 1 + 1, n, A, c, by omega, by omega, by go_num, rfl, by rw [show q + 1 + 1 - 1 = q + 1 by omega, HY.out]; exact HO.out, HB.out⟩
            case measure => simp [intOf]; omega
      · obtain rfl : k = N + 1 := by omega
        have hlti : ¬ (((N + 1 : Nat) : Int)) < (N : Int) + 1 := by omega
        have HO := Lib.hid hown
        have HB := Lib.hid hB
        clear hown hB
        go_wp2
        go_ret2
        exact ⟨A, n, c, rfl, own_base HO.out (by omega), HB2.out.trans (HB.out.mono s2)⟩

end Go.Proofs.YthemmckchmpicaaDoor
