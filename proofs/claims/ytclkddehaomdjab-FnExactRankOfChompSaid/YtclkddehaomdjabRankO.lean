/-
  Contracts: RankOfChomp of the model and of the program.
-/
import Derived.Test.YtclkddehaomdjabRankC
import Derived.Test.YtclkddehaomdjabHeapC
namespace Go.Proofs.Ytclkddehaomdjab
open Go.RowKit
set_option linter.unusedVariables false

theorem ch_ext {a b : List Int} (ha : ChOK a) (hb : ChOK b) (h : ∀ j, j < 6 → a.getD j 0 = b.getD j 0) : a = b := by
  have e1 := ha.rows ha.2.1
  have e2 := hb.rows hb.2.1
  rw [← e1, ← e2]
  apply rowsK_congr
  exact h

theorem ch_keyAt : Try.prog.keyTypeAt 2 51 = true := by kernel_rfl
theorem run_eqCh {a b : List Int} {f g : Nat → Int} (ha : ChOK a) (hb : ChOK b) (hf : f = fl a) (hg : g = fl b) (w : World) :
    (Op.equalIn 10000 51 (.agg #[.int .i64 (f 0), .int .i64 (f 1), .int .i64 (f 2), .int .i64 (f 3), .int .i64 (f 4), .int .i64 (f 5)]) (.agg #[.int .i64 (g 0), .int .i64 (g 1), .int .i64 (g 2), .int .i64 (g 3), .int .i64 (g 4), .int .i64 (g 5)])).run Try.prog w = .ok (decide (a = b)) w := by
  obtain ⟨r, hr, hiff⟩ := run_equal_deep (P := Try.prog) w (m := 2) (by omega) ch_keyAt chWide (chKey (f := f) ha (fun j _ => by rw [hf])) (chKey (f := g) hb (fun j _ => by rw [hg]))
  have e : r = decide (a = b) := by
    by_cases h : a = b
    · rw [decide_eq_true h]; exact hiff.2 (by rw [h])
    · rw [decide_eq_false h]
      cases r
      · rfl
      · exact absurd (litC_inj ha hb (hiff.1 rfl)) h
  rw [← e]
  exact hr

set_option maxRecDepth 100000 in
set_option maxHeartbeats 2000000 in
theorem chIndex_any (A : Option Addr) (n c B : Nat) (L : List (List Int)) (q : List Int) (f : Nat → Int) (p : Nat) (w : World) (ho : w.ownsRow B 51 6 (.slice A n c) n (chCells L)) (hL : L.length = n) (hok : ∀ l ∈ L, ChOK l) (hq : ChOK q) (hf : f = fl q) (hn : n ≤ 923) (hp : p < n) (hat : L.getD p [] = q) (hne : ∀ j, j < p → L.getD j [] ≠ q) :
    Calls Try.prog 47 #[.slice A n c, arrF f] w fun e w' => e = .returned (.int .i64 (p : Int)) ∧ Below w.heap.size w w' := by
  have hbl : Below w.heap.size w (w.alloc (.cells #[.int .i64 (f 0), .int .i64 (f 1), .int .i64 (f 2), .int .i64 (f 3), .int .i64 (f 4), .int .i64 (f 5)] 51)) := (Below.refl _ _).alloc (Nat.le_refl _) _
  have HBX := Lib.hid (BoxF.new w f)
  have HO := Lib.hid ho
  have HLL := Lib.hid hL
  have HOK := Lib.hid hok
  have HQ := Lib.hid hq
  have HF := Lib.hid hf
  have HAT := Lib.hid hat
  have HNE := Lib.hid hne
  have HBL := Lib.hid hbl
  clear ho hok hq hf hat hne hbl hL
  go_enter Try.func47, Try.ntmps47
  go_wp2
  go_loopw [8] (fun i wr => ∃ k : Nat, k ≤ p ∧ i = .int .i64 k ∧ BoxF wr w.heap.size f ∧ Below w.heap.size w wr) (fun i _ => p + 1 - (intOf i).toNat)
  case atStart => exact ⟨0, Nat.zero_le _, rfl, HBX.out, HBL.out⟩
  case round =>
    obtain ⟨k, hk, rfl, hbx, hB⟩ := hrel
    have hkn : k < n := by omega
    have hkl : k < L.length := by rw [HLL.out]; exact hkn
    have hob := own_later HO.out hB (Nat.le_refl _)
    obtain ⟨b, rfl, hb1', hbl⟩ := own_at hob (by omega)
    have a0 := (hob.cellAt (k * 6) (by omega)).trans (chCells_at _ k 0 hkl (by omega))
    have a1 := (hob.cellAt (k * 6 + 1) (by omega)).trans (chCells_at _ k 1 hkl (by omega))
    have a2 := (hob.cellAt (k * 6 + 2) (by omega)).trans (chCells_at _ k 2 hkl (by omega))
    have a3 := (hob.cellAt (k * 6 + 3) (by omega)).trans (chCells_at _ k 3 hkl (by omega))
    have a4 := (hob.cellAt (k * 6 + 4) (by omega)).trans (chCells_at _ k 4 hkl (by omega))
    have a5 := (hob.cellAt (k * 6 + 5) (by omega)).trans (chCells_at _ k 5 hkl (by omega))
    have hkok : ChOK (L.getD k []) := HOK.out _ (by rw [show L.getD k [] = L[k] by simp [List.getD, hkl]]; exact List.getElem_mem hkl)
    have HEQ : Hid (q = L.getD k [] ↔ k = p) := by
      constructor
      · intro e
        by_cases hlt : k < p
        · exact absurd e.symm (HNE.out k hlt)
        · omega
      · intro h
        subst h
        exact HAT.out.symm
    obtain ⟨c0, c1, c2, c3, c4, c5⟩ := hbx.cells
    have HBX2 := Lib.hid hbx
    have HB2 := Lib.hid hB
    generalize L.getD k [] = l at *
    obtain ⟨g, hg⟩ : ∃ g : Nat → Int, g = fun j => l.getD j 0 := ⟨_, rfl⟩
    rw [show l.getD 0 0 = g 0 by rw [hg]] at a0
    rw [show l.getD 1 0 = g 1 by rw [hg]] at a1
    rw [show l.getD 2 0 = g 2 by rw [hg]] at a2
    rw [show l.getD 3 0 = g 3 by rw [hg]] at a3
    rw [show l.getD 4 0 = g 4 by rw [hg]] at a4
    rw [show l.getD 5 0 = g 5 by rw [hg]] at a5
    have heq := fun wz => run_eqCh HQ.out hkok HF.out hg wz
    have HD := Lib.hid HEQ.out
    generalize hdd : decide (q = l) = dd at *
    have HDD := Lib.hid hdd
    clear hdd
    clear hg hkok hob hbx hB hkl
    go_wp2
    refine wp_region_held_drew (S := (fun w' => w'.cell? ⟨w.heap.size, 0, none⟩ = some (.int .i64 (f 0)) ∧ w'.cell? ⟨w.heap.size, 1, none⟩ = some (.int .i64 (f 1)) ∧ w'.cell? ⟨w.heap.size, 2, none⟩ = some (.int .i64 (f 2)) ∧ w'.cell? ⟨w.heap.size, 3, none⟩ = some (.int .i64 (f 3)) ∧ w'.cell? ⟨w.heap.size, 4, none⟩ = some (.int .i64 (f 4)) ∧ w'.cell? ⟨w.heap.size, 5, none⟩ = some (.int .i64 (f 5)) ∧ w'.cell? ⟨b, k * 6, none⟩ = some (.int .i64 (g 0)) ∧ w'.cell? ⟨b, k * 6 + 1, none⟩ = some (.int .i64 (g 1)) ∧ w'.cell? ⟨b, k * 6 + 2, none⟩ = some (.int .i64 (g 2)) ∧ w'.cell? ⟨b, k * 6 + 3, none⟩ = some (.int .i64 (g 3)) ∧ w'.cell? ⟨b, k * 6 + 4, none⟩ = some (.int .i64 (g 4)) ∧ w'.cell? ⟨b, k * 6 + 5, none⟩ = some (.int .i64 (g 5)))) (by kernel_rfl) ?_ (fun hHeld => ?_)
    · ((try dsimp only); (repeat' apply And.intro); all_goals ((repeat (first | (with_reducible refine cell_drew ?_) | (with_reducible refine cell_drewN _ ?_) | ((with_reducible refine cell_alloc ?_ ?_); · first | omega | (simp; done) | (simp; omega) | assumption) | ((with_reducible refine cell_set ?_ ?_); · first | (intro e; injection e; omega) | (intro e; simp at e; done) | (intro e; simp at e; omega)))); first | assumption | (simp; done)))
    refine reg_on (i := 0) (d := 11) (v := ?rv1) rfl rfl (by kernel_rfl) (by kernel_rfl) (by kernel_rfl) (fun _ _ _ h => h) (by rfl) ?ry1 (by assumption) ?rr1
    case ry1 => (intro wz hSw; (try dsimp only at hSw); go_simp; try with_reducible rfl)
    (try simp only [Act.put, List.setIfInBounds_toArray, List.set_cons_zero, List.set_cons_succ])
    refine reg_on (i := 1) (d := 12) (v := ?rv2) rfl rfl (by kernel_rfl) (by kernel_rfl) (by kernel_rfl) (fun _ _ _ h => h) (by rfl) ?ry2 (by assumption) ?rr2
    case ry2 => (intro wz hSw; (try dsimp only at hSw); go_simp; try with_reducible rfl)
    (try simp only [Act.put, List.setIfInBounds_toArray, List.set_cons_zero, List.set_cons_succ])
    refine reg_on (i := 2) (d := 13) (v := ?rv3) rfl rfl (by kernel_rfl) (by kernel_rfl) (by kernel_rfl) (fun _ _ _ h => h) (by rfl) ?ry3 (by assumption) ?rr3
    case ry3 => (intro wz hSw; (try dsimp only at hSw); go_simp; try with_reducible rfl)
    (try simp only [Act.put, List.setIfInBounds_toArray, List.set_cons_zero, List.set_cons_succ])
    refine reg_on (i := 3) (d := 14) (v := ?rv4) rfl rfl (by kernel_rfl) (by kernel_rfl) (by kernel_rfl) (fun _ _ _ h => h) (by rfl) ?ry4 (by assumption) ?rr4
    case ry4 => (intro wz hSw; (try dsimp only at hSw); go_simp; try with_reducible rfl)
    (try simp only [Act.put, List.setIfInBounds_toArray, List.set_cons_zero, List.set_cons_succ])
    refine reg_on (i := 4) (d := 15) (v := ?rv5) rfl rfl (by kernel_rfl) (by kernel_rfl) (by kernel_rfl) (fun _ _ _ h => h) (by rfl) ?ry5 (by assumption) ?rr5
    case ry5 => (intro wz hSw; (try dsimp only at hSw); go_simp; try with_reducible rfl)
    (try simp only [Act.put, List.setIfInBounds_toArray, List.set_cons_zero, List.set_cons_succ])
    refine reg_on (i := 5) (d := 16) (v := ?rv6) rfl rfl (by kernel_rfl) (by kernel_rfl) (by kernel_rfl) (fun _ _ _ h => h) (by rfl) ?ry6 (by assumption) ?rr6
    case ry6 => (intro wz hSw; (try dsimp only at hSw); go_simp; try with_reducible rfl)
    (try simp only [Act.put, List.setIfInBounds_toArray, List.set_cons_zero, List.set_cons_succ])
    refine wpAnyH_done (by kernel_rfl) ?_ _
    have hB3 : Below w.heap.size w wr.drew := HB2.out.drew
    have hx3 : BoxF wr.drew w.heap.size f := HBX2.out
    clear c0 c1 c2 c3 c4 c5 a0 a1 a2 a3 a4 a5 heq
    cases dd with
    | true =>
      have e : k = p := HEQ.out.1 (of_decide_eq_true HDD.out)
      subst e
      go_wp2
      go_ret
      exact ⟨rfl, hB3⟩
    | false =>
      have e : k ≠ p := fun h => of_decide_eq_false HDD.out (HEQ.out.2 h)
      go_wp2
      go_roundw
      case rel => exact ⟨k + 1, by omega, by go_num, hx3, hB3⟩
      case measure => simp [intOf]; omega

/-- a chomp that comes before l -/
def befP (l a : List Int) : Bool := decide (keyI a < keyI l)
/-- what RankOfChomp returns -/
def rkV (l : List Int) : Int := if chB l = true then (((chs 6 6 []).filter (befP l)).length : Nat) else 0
theorem take_befP {L : List (List Int)} (hs : L.Pairwise fun a b => keyI a < keyI b) {p : Nat} (hp : p < L.length) : ∀ k, k ≤ L.length → ((L.take k).filter (befP L[p])).length = min k p
  | 0, _ => by simp
  | k + 1, hk => by
    have ih := take_befP hs hp k (by omega)
    rw [List.take_succ_eq_append_getElem (by omega), List.filter_append, List.length_append, ih]
    by_cases h : k < p
    · have q := List.pairwise_iff_getElem.1 hs k p (by omega) hp h
      rw [show [L[k]].filter (befP L[p]) = [L[k]] by simp [befP, q]]
      simp
      omega
    · have q : ¬ keyI L[k] < keyI L[p] := by
        by_cases e : p = k
        · subst e; omega
        · have := List.pairwise_iff_getElem.1 hs p k hp (by omega) (by omega)
          omega
      rw [show [L[k]].filter (befP L[p]) = [] by simp [befP, q]]
      simp
      omega
theorem rank_befP {p : Nat} (hp : p < (chs 6 6 []).length) : ((chs 6 6 []).filter (befP (chs 6 6 [])[p])).length = p := by
  have h := take_befP (keys_sorted (by omega) (by omega)) hp (chs 6 6 []).length (Nat.le_refl _)
  rw [List.take_length] at h
  omega

set_option maxRecDepth 100000 in
set_option maxHeartbeats 2000000 in
theorem sRankOf_any (A : Option Addr) (n c : Nat) (l : List Int) (w : World) (hr : Rd w 1 A n (intCells l)) (hn : n ≤ 1000000000) :
    Calls Try.prog 20 #[.slice A n c] w fun e w' => e = .returned (.tuple #[.int .i64 (rkV l), .bool (chB l)]) ∧ Below w.heap.size w w' := by
  have HG := Lib.hid (fun wx h => cmGood_any A n c l wx h hn)
  cases hb : chB l
  · rw [show rkV l = 0 by simp [rkV, hb]]
    have HB := Lib.hid hb
    clear hb
    go_enter Try.func20, Try.ntmps20
    go_wp2_with fail
    refine (HG.out _ hr).mono ?_; rintro e w1 ⟨rfl, hb1⟩
    rw [HB.out]
    go_wp2
    go_ret2
    exact ⟨rfl, hb1⟩
  · have HV : Hid (rkV l = (((chs 6 6 []).filter (befP l)).length : Nat)) := by simp only [Hid, rkV, hb, if_true]
    have HOK := Lib.hid (chB_true.1 hb)
    have HB := Lib.hid hb
    have HA := Lib.hid (fun wx => cmAll_any 6 6 wx (by omega) (by omega))
    obtain ⟨kl, hkl⟩ : ∃ kl : Nat, keyI l = kl := ⟨(keyI l).toNat, by have := (keyI_in HOK.out).1; omega⟩
    have HKL : Hid (∀ (wx : World), Rd wx 1 A n (intCells l) → Calls Try.prog 39 #[.slice A n c] wx fun e w' => e = .returned (.int .i64 (kl : Int)) ∧ wx = w') := fun wx h => by
      have q := cmKey_any A n c l wx h HOK.out
      rw [hkl] at q
      exact q
    have HKV := Lib.hid hkl
    clear hb hkl
    go_enter Try.func20, Try.ntmps20
    go_wp2_with fail
    refine (HG.out _ hr).mono ?_; rintro e w1 ⟨rfl, hb1⟩
    rw [HB.out]
    have hr1 := hr.later hb1 (Nat.le_refl _)
    have HB1 := Lib.hid hb1
    have s1 := hb1.size
    clear hb1
    go_wp2_with fail
    refine (HA.out _).mono ?_; rintro e w2 ⟨A1, m, c1, rfl, hL, hss, hb2⟩
    obtain ⟨AC, CC, hac⟩ := hss
    have HAC := Lib.hid hac
    have HLL := Lib.hid hL
    have HR2 := Lib.hid (hr1.later hb2 (Nat.le_refl _))
    have HB2 := Lib.hid (HB1.out.trans (hb2.mono s1))
    have hm923 : m ≤ 923 := by rw [← hL, all_923]; omega
    have HQ : Hid (∀ k (hk : k < (chs 6 6 []).length), ChOK (chs 6 6 [])[k]) := fun k hk => ((mem_all (by omega) (by omega)).1 (List.getElem_mem hk)).1
    clear hac hL hb2 HB1
    generalize hCL : chs 6 6 [] = CL at *
    have HCL := Lib.hid hCL
    clear hCL
    go_wp2
    go_loop [4, 12] (fun v i => ∃ k j : Nat, k ≤ m ∧ j ≤ k ∧ i = .int .i64 k ∧ v = .int .i64 j ∧ Hid (((CL.take k).filter (befP l)).length = j)) (fun _ i => m - (intOf i).toNat)
    case atStart => exact ⟨0, 0, Nat.zero_le _, Nat.le_refl _, rfl, rfl, by simp [Hid]⟩
    case round =>
      obtain ⟨k, j, hk, hjk, rfl, rfl, hj⟩ := hrel
      by_cases hlt : k < m
      · have hkl : k < CL.length := by rw [HLL.out]; exact hlt
        obtain ⟨bm, rfl, hbm1, hbm⟩ := own_at HAC.out.top (by omega)
        have pm := HAC.out.top.cellAt k (by omega)
        rw [ssCells_at hlt] at pm
        have hrow := HAC.out.row k hlt
        have hln : lsR CL k = CL[k] := by simp [lsR, List.getD, List.getElem?_eq_getElem hkl]
        have hok := HQ.out k hkl
        have hsn : (CL.take (k + 1)).filter (befP l) = (CL.take k).filter (befP l) ++ [CL[k]].filter (befP l) := by rw [List.take_succ_eq_append_getElem hkl, List.filter_append]
        rw [hln] at pm hrow
        generalize CL[k] = q at *
        obtain ⟨kn, hkn⟩ : ∃ kn : Nat, keyI q = kn := ⟨(keyI q).toNat, by have := (keyI_in hok).1; omega⟩
        have HKC : Hid (∀ (wx : World), Rd wx 1 (AC k) q.length (intCells q) → Calls Try.prog 39 #[.slice (AC k) q.length (CC k)] wx fun e w' => e = .returned (.int .i64 (kn : Int)) ∧ wx = w') := fun wx h => by
          have qq := cmKey_any (AC k) q.length (CC k) q wx h hok
          rw [hkn] at qq
          exact qq
        have HRW := Lib.hid (Rd.of_own hrow)
        have hbf : befP l q = decide ((kn : Int) < (kl : Int)) := by simp only [befP, hkn, HKV.out]
        by_cases hd : kn < kl
        · have HJ : Hid (((CL.take (k + 1)).filter (befP l)).length = j + 1) := by
            simp only [Hid]
            rw [hsn, List.length_append, hj.out]
            rw [show [q].filter (befP l) = [q] by simp [hbf, hd]]
            rfl
          clear hln hrow hok hsn hkn hbf
          go_wp2_with fail
          refine (HKC.out _ HRW.out).mono ?_; rintro e wx ⟨rfl, rfl⟩
          go_wp2_with fail
          refine (HKL.out _ HR2.out).mono ?_; rintro e wx ⟨rfl, rfl⟩
          go_wp2
          go_round
          case rel => exact ⟨k + 1, j + 1, by omega, by omega, by go_num, by go_num, HJ⟩
          case measure => simp [intOf]; omega
        · have HJ : Hid (((CL.take (k + 1)).filter (befP l)).length = j) := by
            simp only [Hid]
            rw [hsn, List.length_append, hj.out]
            rw [show [q].filter (befP l) = [] by simp [hbf]; omega]
            rfl
          clear hln hrow hok hsn hkn hbf
          go_wp2_with fail
          refine (HKC.out _ HRW.out).mono ?_; rintro e wx ⟨rfl, rfl⟩
          go_wp2_with fail
          refine (HKL.out _ HR2.out).mono ?_; rintro e wx ⟨rfl, rfl⟩
          go_wp2
          go_round
          case rel => exact ⟨k + 1, j, by omega, by omega, by go_num, rfl, HJ⟩
          case measure => simp [intOf]; omega
      · have hkm : k = m := by omega
        have HJ : Hid ((CL.filter (befP l)).length = j) := by
          have h := hj.out
          rw [List.take_of_length_le (by rw [HLL.out]; omega)] at h
          exact h
        go_wp2
        go_ret2
        exact ⟨by rw [HV.out, HJ.out]; rfl, HB2.out⟩

set_option maxRecDepth 100000 in
set_option maxHeartbeats 2000000 in
theorem rankOf_any (A : Option Addr) (n c : Nat) (l : List Int) (w : World) (hr : Rd w 1 A n (intCells l)) (hn : n ≤ 1000000000) :
    Calls Try.prog 22 #[.slice A n c] w fun e w' => e = .returned (.tuple #[.int .i64 (rkV l), .bool (chB l)]) ∧ Below w.heap.size w w' := by
  have HC := Lib.hid (fun wx h => chompOf_any A n c l wx h hn)
  cases hb : chB l
  · rw [show rkV l = 0 by simp [rkV, hb]]
    have HB := Lib.hid hb
    have HPN := Lib.hid (padC_no hb)
    clear hb
    go_enter Try.func22, Try.ntmps22
    go_wp2_with fail
    refine (HC.out _ hr).mono ?_; rintro e w1 ⟨rfl, hb1⟩
    rw [HB.out, HPN.out]
    have s1 := hb1.size
    go_wp2
    go_ret2
    exact ⟨rfl, by (repeat (first | (with_reducible exact Below.refl _ _) | (with_reducible assumption) | (with_reducible refine Below.drew ?_) | ((with_reducible refine balloc ?_ _ ?_); · (first | (simp; done) | (simp; omega) | omega)) | ((with_reducible refine bset ?_ _ ?_); · (first | (simp; done) | (simp; omega) | omega)) | (with_reducible refine bdrewN _ ?_) | ((with_reducible refine bcall ?_ (by assumption) ?_); · (first | (simp; done) | (simp; omega) | omega))))⟩
  · have hok := chB_true.1 hb
    obtain ⟨p, hp, hpe⟩ := List.getElem_of_mem ((mem_all (H := 6) (W := 6) (by omega) (by omega)).2 ⟨hok, hok.2.1, hok.le6 0⟩)
    have HV : Hid (rkV l = (p : Int)) := by
      simp only [Hid, rkV, hb, if_true]
      have h := rank_befP hp
      rw [hpe] at h
      rw [h]
    have h923 : (chs 6 6 []).length = 923 := all_923
    have hat : (chs 6 6 []).getD p [] = l := by rw [show (chs 6 6 []).getD p [] = (chs 6 6 [])[p] by simp [List.getD, hp]]; exact hpe
    have hne : ∀ j, j < p → (chs 6 6 []).getD j [] ≠ l := fun j hj e => by
      have hj2 : j < (chs 6 6 []).length := by omega
      rw [show (chs 6 6 []).getD j [] = (chs 6 6 [])[j] by simp [List.getD, hj2]] at e
      have q := List.pairwise_iff_getElem.1 (keys_sorted (H := 6) (W := 6) (by omega) (by omega)) j p hj2 hp hj
      rw [hpe, e] at q
      omega
    have HIX : Hid (∀ (A : Option Addr) (c B : Nat) (f : Nat → Int) (wx : World), f = fl l → wx.ownsRow B 51 6 (.slice A 923 c) 923 (chCells (chs 6 6 [])) → Calls Try.prog 47 #[.slice A 923 c, arrF f] wx fun e w' => e = .returned (.int .i64 (p : Int)) ∧ Below wx.heap.size wx w') := fun A c B f wx hf ho => chIndex_any A 923 c B _ l f p wx ho h923 (fun a ha => ((mem_all (by omega) (by omega)).1 ha).1) hok hf (by omega) (by omega) hat hne
    have HB := Lib.hid hb
    have HPD : Hid (padC l = fl l) := funext fun j => padC_at hb j
    have HA := Lib.hid (fun wx => chompsWithin_any 6 6 wx (by omega) (by omega))
    have H923 := Lib.hid h923
    clear hb hok hp hpe hat hne h923
    go_enter Try.func22, Try.ntmps22
    go_wp2_with fail
    refine (HC.out _ hr).mono ?_; rintro e w1 ⟨rfl, hb1⟩
    rw [HB.out, HPD.out]
    obtain ⟨f, hf⟩ : ∃ f, f = fl l := ⟨_, rfl⟩
    rw [← hf]
    have s1 := hb1.size
    have hbl : Below w.heap.size w (w1.alloc (.cells #[.int .i64 (f 0), .int .i64 (f 1), .int .i64 (f 2), .int .i64 (f 3), .int .i64 (f 4), .int .i64 (f 5)] 51)) := by (repeat (first | (with_reducible exact Below.refl _ _) | (with_reducible assumption) | (with_reducible refine Below.drew ?_) | ((with_reducible refine balloc ?_ _ ?_); · (first | (simp; done) | (simp; omega) | omega)) | ((with_reducible refine bset ?_ _ ?_); · (first | (simp; done) | (simp; omega) | omega)) | (with_reducible refine bdrewN _ ?_) | ((with_reducible refine bcall ?_ (by assumption) ?_); · (first | (simp; done) | (simp; omega) | omega))))
    have hbx := BoxF.new w1 f
    obtain ⟨c0, c1, c2, c3, c4, c5⟩ := hbx.cells
    have HF := Lib.hid hf
    have HBL := Lib.hid hbl
    have HBX := Lib.hid hbx
    clear hf hbl hbx hb1
    go_wp2
    generalize w1.alloc (.cells #[.int .i64 (f 0), .int .i64 (f 1), .int .i64 (f 2), .int .i64 (f 3), .int .i64 (f 4), .int .i64 (f 5)] 51) = W1 at *
    refine wp_region_held_drew (S := (fun w' => w'.cell? ⟨w1.heap.size, 0, none⟩ = some (.int .i64 (f 0)) ∧ w'.cell? ⟨w1.heap.size, 1, none⟩ = some (.int .i64 (f 1)) ∧ w'.cell? ⟨w1.heap.size, 2, none⟩ = some (.int .i64 (f 2)) ∧ w'.cell? ⟨w1.heap.size, 3, none⟩ = some (.int .i64 (f 3)) ∧ w'.cell? ⟨w1.heap.size, 4, none⟩ = some (.int .i64 (f 4)) ∧ w'.cell? ⟨w1.heap.size, 5, none⟩ = some (.int .i64 (f 5)))) (by kernel_rfl) ?_ (fun hHeld => ?_)
    · ((try dsimp only); (repeat' apply And.intro); all_goals ((repeat (first | (with_reducible refine cell_drew ?_) | (with_reducible refine cell_drewN _ ?_) | ((with_reducible refine cell_alloc ?_ ?_); · first | omega | (simp; done) | (simp; omega) | assumption) | ((with_reducible refine cell_set ?_ ?_); · first | (intro e; injection e; omega) | (intro e; simp at e; done) | (intro e; simp at e; omega)))); first | assumption | (simp; done)))
    refine reg_on (i := 1) (d := 14) (v := ?rv7) rfl rfl (by kernel_rfl) (by kernel_rfl) (by kernel_rfl) (fun _ _ _ h => h) (by rfl) ?ry7 (by assumption) ?rr7
    case ry7 => (intro wz hSw; (try dsimp only at hSw); go_simp; try with_reducible rfl)
    (try simp only [Act.put, List.setIfInBounds_toArray, List.set_cons_zero, List.set_cons_succ])
    refine wpAnyH_ready (rs := [0]) (by kernel_rfl) (by simp) ?_
    refine AllReadyH.cons rfl (fun K hK => ?_) AllReadyH.nil
    go_simp
    go_at_call 37; refine (HA.out _).mono ?_; rintro e w2 ⟨A2, m2, c2, rfl, hL, ho2, hb2⟩; obtain rfl : m2 = 923 := hL.symm.trans H923.out; have hx2 : BoxF w2 w1.heap.size f := BoxF.below (by exact HBX.out) hb2 (Nat.le_refl _); obtain ⟨k0, k1, k2, k3, k4, k5⟩ := hx2.cells
    refine hK.out _ _ ?_ (fun hHeld => ?_)
    · ((try dsimp only); (repeat' apply And.intro); all_goals ((repeat (first | (with_reducible refine cell_drew ?_) | (with_reducible refine cell_drewN _ ?_) | ((with_reducible refine cell_alloc ?_ ?_); · first | omega | (simp; done) | (simp; omega) | assumption) | ((with_reducible refine cell_set ?_ ?_); · first | (intro e; injection e; omega) | (intro e; simp at e; done) | (intro e; simp at e; omega)))); first | assumption | (simp; done)))
    clear hK K
    (try simp only [Act.put, List.setIfInBounds_toArray, List.set_cons_zero, List.set_cons_succ])
    refine wpAnyH_ready (rs := [2]) (by kernel_rfl) (by simp) ?_
    refine AllReadyH.cons rfl (fun K hK => ?_) AllReadyH.nil
    go_simp
    go_at_call 47; refine (HIX.out A2 c2 _ f _ HF.out (by exact ho2)).mono ?_; rintro e w3 ⟨rfl, hb3⟩; have hx3 : BoxF w3 w1.heap.size f := BoxF.below (by exact hx2) hb3 (Nat.le_refl _); obtain ⟨m0, m1, m3, m4, m5, m6⟩ := hx3.cells
    refine hK.out _ _ ?_ (fun hHeld => ?_)
    · ((try dsimp only); (repeat' apply And.intro); all_goals ((repeat (first | (with_reducible refine cell_drew ?_) | (with_reducible refine cell_drewN _ ?_) | ((with_reducible refine cell_alloc ?_ ?_); · first | omega | (simp; done) | (simp; omega) | assumption) | ((with_reducible refine cell_set ?_ ?_); · first | (intro e; injection e; omega) | (intro e; simp at e; done) | (intro e; simp at e; omega)))); first | assumption | (simp; done)))
    clear hK K
    (try simp only [Act.put, List.setIfInBounds_toArray, List.set_cons_zero, List.set_cons_succ])
    refine reg_on (i := 3) (d := 2) (v := ?rv10) rfl rfl (by kernel_rfl) (by kernel_rfl) (by kernel_rfl) (fun _ _ _ h => h) (by rfl) ?ry10 (by assumption) ?rr10
    case ry10 => (intro wz hSw; (try dsimp only at hSw); go_simp; try with_reducible rfl)
    (try simp only [Act.put, List.setIfInBounds_toArray, List.set_cons_zero, List.set_cons_succ])
    refine reg_on (i := 4) (d := 3) (v := ?rv11) rfl rfl (by kernel_rfl) (by kernel_rfl) (by kernel_rfl) (fun _ _ _ h => h) (by rfl) ?ry11 (by assumption) ?rr11
    case ry11 => (intro wz hSw; (try dsimp only at hSw); go_simp; try with_reducible rfl)
    (try simp only [Act.put, List.setIfInBounds_toArray, List.set_cons_zero, List.set_cons_succ])
    refine wpAnyH_done (by kernel_rfl) ?_ _
    have hB2 : Below w.heap.size w w2 := HBL.out.drew.trans (hb2.mono HBL.out.size)
    have hB3 : Below w.heap.size w w3 := hB2.trans (hb3.mono hB2.size)
    go_wp2
    go_ret2
    exact ⟨by rw [HV.out]; rfl, hB3⟩

end Go.Proofs.Ytclkddehaomdjab
