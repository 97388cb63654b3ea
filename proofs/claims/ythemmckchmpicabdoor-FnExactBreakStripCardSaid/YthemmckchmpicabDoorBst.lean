/-
  Contracts: the strips behind a move, of the model and of the program; a list of numbers copied. Condition: where the program has laid its errors.
-/
import Derived.Test.YthemmckchmpicabDoorAreS
import Derived.Test.YthemmckchmpicabDoorTry
import Derived.Test.YthemmckchmpicabDoorOpenI
namespace Go.Proofs.YthemmckchmpicabDoor
open Go.RowKit
set_option linter.unusedVariables false
set_option linter.unusedSimpArgs false

def getS (L : List Int) (i : Int) : Int := L.getD i.toNat 0
def bsB (L : List Int) (i t l : Int) (u : Bool) : Bool := okSS L l && !(decide (L.length = 8)) && decide (0 ≤ i ∧ i < L.length) && canS (getS L i) t l u
def bsR (L : List Int) (i t l : Int) (u : Bool) : List Int := if bsB L i t l u then L.set i.toNat t ++ [getS L i - t] else []
theorem length_bsR (L : List Int) (i t l : Int) (u : Bool) : (bsR L i t l u).length ≤ 9 := by
  unfold bsR
  cases h : bsB L i t l u
  · simp
  · have hk : okSS L l = true := by simp [bsB] at h; exact h.1.1.1
    have := (areS_true (by simp [okSS] at hk; exact hk.1)).2.1
    simp; omega

theorem rd_addS {w : World} {n b o : Nat} {xs : List Int} (hr : Rd w 1 (some ⟨b, o, none⟩) n (intCells xs)) : ∀ (j : Nat) (u : Value), (intCells xs)[j]? = some u → w.cell? ((⟨b, o, none⟩ : Addr).add j) = some u := by
  intro j u hu
  have hj : j < n := by have := (List.getElem?_eq_some_iff.1 hu).1; rw [length_intCells, hr.ilen] at this; exact this
  obtain ⟨b', o', e, _, hc⟩ := hr.2 (by omega)
  simp only [Option.some.injEq, Addr.mk.injEq, and_true] at e
  obtain ⟨rfl, rfl⟩ := e
  rw [addr_add]
  exact hc j u hu

set_option maxRecDepth 100000 in
set_option maxHeartbeats 1000000 in
theorem l1OwnI_any (A : Option Addr) (n c : Nat) (b : List Int) (w : World) (hr : Rd w 1 A n (intCells b)) (hn1 : 1 ≤ n) (hn : n ≤ 1000) :
    Calls Tryd.prog 42 #[.slice A n c] w fun e w' => ∃ A' c', e = .returned (.slice A' n c') ∧ w'.ownsRow w.heap.size 3 1 (.slice A' n c') n (intCells b) ∧ Below w.heap.size w w' := by
  obtain ⟨i0, hi, hz0, hz1, hz2⟩ := info_parts intS_info
  have hne := World.ownsRow_lit (base := w.heap.size) (e := 3) (size := 1) w #[] 0 (Nat.le_refl _) (by simp [maxLen]) rfl
  have hlen : b.length = n := hr.ilen
  obtain ⟨g, o, rfl, hgl, _⟩ := hr.2 (by omega)
  have hr2 := hr.alloc (.cells #[] 3)
  have hc0 : (intCells b).length = n * 1 := by rw [length_intCells, hlen, Nat.mul_one]
  have hc1 := rd_addS hr2
  have hc3 : 0 + n ≤ maxLen := by simp only [maxLen]; omega
  have hc4 : (0 + n) * 8 ≤ 140737488355328 := by omega
  have hc5 : w.heap.size ≤ (w.alloc (.cells #[] 3)).heap.size := by simp
  go_enter Tryd.func42, Tryd.ntmps42
  go_wp2_with (at_builtin; refine wpList_append_own _ rfl (.tmp 3) (.tmp 4) 22 rfl w.heap.size 3 i0 (.int .i64 0) 1 8 Tryd.underlying22 hi hz0 hz1 hz2 rfl (by decide) _ _ _ rfl hne ⟨g, o, none⟩ n c (intCells b) rfl hc0 hc1 (int_oneCell b) hc3 hc4 hc5 ?_)
  intro v' w2 hown' hgrow _
  have hb2 := gb_new (Nat.le_refl _) ((Below.refl w.heap.size w).alloc (Nat.le_refl _) (.cells #[] 3)) hgrow (fun g hg => (hne.lt g hg).1)
  obtain ⟨A', c', rfl⟩ := own_slice hown'
  clear hc0 hc1 hc3 hc4 hc5
  go_wp2
  go_ret
  exact ⟨A', c', by simp, by simpa using hown', hb2⟩

set_option maxRecDepth 100000 in
set_option maxHeartbeats 1000000 in
theorem slCloneI_any (A : Option Addr) (n c : Nat) (b : List Int) (w : World) (hr : Rd w 1 A n (intCells b)) (hn1 : 1 ≤ n) (hn : n ≤ 1000) :
    Calls Tryd.prog 54 #[.slice A n c] w fun e w' => ∃ A' c', e = .returned (.slice A' n c') ∧ w'.ownsRow w.heap.size 3 1 (.slice A' n c') n (intCells b) ∧ Below w.heap.size w w' := by
  obtain ⟨i0, hi, hz0, hz1, hz2⟩ := info_parts intS_info
  have hne := World.ownsRow_lit (base := w.heap.size) (e := 3) (size := 1) w #[] 0 (Nat.le_refl _) (by simp [maxLen]) rfl
  have hlen : b.length = n := hr.ilen
  obtain ⟨g, o, rfl, hgl, _⟩ := hr.2 (by omega)
  have hr2 := hr.alloc (.cells #[] 3)
  have hc0 : (intCells b).length = n * 1 := by rw [length_intCells, hlen, Nat.mul_one]
  have hc1 := rd_addS hr2
  have hc3 : 0 + n ≤ maxLen := by simp only [maxLen]; omega
  have hc4 : (0 + n) * 8 ≤ 140737488355328 := by omega
  have hc5 : w.heap.size ≤ (w.alloc (.cells #[] 3)).heap.size := by simp
  have hnil := fun wx => Lib.run_eql_slice_nil (P := Tryd.prog) wx 22 3 (some ⟨g, o, none⟩) n c 0 0 Tryd.underlying22
  go_enter Tryd.func54, Tryd.ntmps54
  go_wp2_with (at_builtin; refine wpList_append_own _ rfl (.tmp 5) (.tmp 6) 22 rfl w.heap.size 3 i0 (.int .i64 0) 1 8 Tryd.underlying22 hi hz0 hz1 hz2 rfl (by decide) _ _ _ rfl hne ⟨g, o, none⟩ n c (intCells b) rfl hc0 hc1 (int_oneCell b) hc3 hc4 hc5 ?_)
  intro v' w2 hown' hgrow _
  have hb2 := gb_new (Nat.le_refl _) ((Below.refl w.heap.size w).alloc (Nat.le_refl _) (.cells #[] 3)) hgrow (fun g hg => (hne.lt g hg).1)
  obtain ⟨A', c', rfl⟩ := own_slice hown'
  clear hc0 hc1 hc3 hc4 hc5
  go_wp2
  go_ret
  exact ⟨A', c', by simp, by simpa using hown', hb2⟩

theorem bsR_no {L : List Int} {i t l : Int} {u : Bool} (h : bsB L i t l u = false) : bsR L i t l u = [] := by simp [bsR, h]

set_option maxRecDepth 100000 in
set_option maxHeartbeats 4000000 in
theorem sBreakStrip_any (A : Option Addr) (n c : Nat) (L : List Int) (i t l : Int) (u : Bool) (w : World) (hr : Rd w 1 A n (intCells L)) (hn : n ≤ 4000000000) :
    Calls Tryd.prog 22 #[.slice A n c, .int .i64 i, .int .i64 t, .int .i64 l, .bool u] w fun e w' => ∃ A' n' c', e = .returned (.tuple #[.slice A' n' c', .bool (bsB L i t l u)]) ∧ w'.ownsRow w.heap.size 3 1 (.slice A' n' c') n' (intCells (bsR L i t l u)) ∧ Below w.heap.size w w' := by
  have HL := Lib.hid hr.ilen
  have HS := Lib.hid (fun wx h => laStrips_any A n c L l wx h hn)
  have HRD := Lib.hid hr
  cases hk : okSS L l
  · have hb : bsB L i t l u = false := by simp [bsB, hk]
    rw [hb, bsR_no hb]
    clear hb
    go_enter Tryd.func22, Tryd.ntmps22
    go_wp2_with fail
    refine (HS.out _ HRD.out).mono ?_; rintro e wx ⟨rfl, rfl⟩
    rw [hk]
    clear hk
    go_wp2
    go_ret2
    exact ⟨none, 0, 0, rfl, World.ownsRow_nil _ _ _ _, Below.refl _ _⟩
  · obtain ⟨hA, hl⟩ : areS L = true ∧ inB l 1 60 = true := by simpa [okSS] using hk
    obtain ⟨hn1, hn8, hall⟩ := areS_true hA
    obtain ⟨l1, l2⟩ := inB_true hl
    rw [HL.out] at hn1 hn8
    by_cases h8 : n = 8
    · have hb : bsB L i t l u = false := by simp [bsB, HL.out, h8]
      rw [hb, bsR_no hb]
      clear hb
      have t8 : ((n : Int) == 8) = true := by simp [h8]
      clear h8
      go_enter Tryd.func22, Tryd.ntmps22
      go_wp2_with fail
      refine (HS.out _ HRD.out).mono ?_; rintro e wx ⟨rfl, rfl⟩
      rw [hk]
      clear hk
      go_wp2
      go_ret2
      exact ⟨none, 0, 0, rfl, World.ownsRow_nil _ _ _ _, Below.refl _ _⟩
    · have t8 : ((n : Int) == 8) = false := by simp; omega
      have w1 : IntKind.i64.wrap ((n : Int) - 1) = (n : Int) - 1 := IntWalk.i64_in _ (by omega)
      clear h8
      cases hi : inB i 0 ((n : Int) - 1)
      · have hb : bsB L i t l u = false := by
          have : ¬ (0 ≤ i ∧ i < (L.length : Int)) := by rw [HL.out]; simp [inB] at hi; omega
          simp [bsB, this]
        rw [hb, bsR_no hb]
        clear hb
        go_enter Tryd.func22, Tryd.ntmps22
        go_wp2_with fail
        refine (HS.out _ HRD.out).mono ?_; rintro e wx ⟨rfl, rfl⟩
        rw [hk]
        clear hk
        go_wp2_with fail
        refine (l1In_any _ _ _ _).mono ?_; rintro e wx ⟨rfl, rfl⟩
        rw [hi]
        clear hi
        go_wp2
        go_ret2
        exact ⟨none, 0, 0, rfl, World.ownsRow_nil _ _ _ _, Below.refl _ _⟩
      · obtain ⟨i1, i2⟩ := inB_true hi
        obtain ⟨I, rfl⟩ : ∃ I : Nat, i = I := ⟨i.toNat, by omega⟩
        obtain ⟨b, o, rfl, hbl, hx, p0⟩ := hr.num (show I < n by omega)
        have hget : getS L I = L[I] := by simp [getS, hx]
        obtain ⟨x1, x2⟩ := allS_at hall hx
        have HBQ : Hid (bsB L I t l u = canS L[I] t l u) := by
          rw [Hid, bsB, hget, hk]
          have : ¬ L.length = 8 := by rw [HL.out]; simp at t8; omega
          simp [this, hx]
        have HRQ : Hid (canS L[I] t l u = true → bsR L I t l u = L.set I t ++ [L[I] - t]) := fun h => by
          rw [bsR, HBQ.out, h, if_pos rfl, hget]; simp
        generalize L[I] = x at *
        have y1 : (I : Int) < (n : Int) := by omega
        have y2 : (0 : Int) ≤ (I : Int) := by omega
        have y3 : I < n := by omega
        have w2 : IntKind.i64.wrap (x - 1) = x - 1 := IntWalk.i64_in _ (by omega)
        clear hget hA hall hn1
        cases ht : inB t 1 (x - 1)
        · have hc : canS x t l u = false := by
            have : ¬ (l ≤ t ∧ l ≤ x - t) := by simp [inB] at ht; omega
            simp [canS, this]
          have hb : bsB L I t l u = false := by rw [HBQ.out, hc]
          rw [hb, bsR_no hb]
          clear hb hc
          go_enter Tryd.func22, Tryd.ntmps22
          go_wp2_with fail
          refine (HS.out _ HRD.out).mono ?_; rintro e wx ⟨rfl, rfl⟩
          rw [hk]
          clear hk
          go_wp2_with fail
          refine (l1In_any _ _ _ _).mono ?_; rintro e wx ⟨rfl, rfl⟩
          rw [hi]
          clear hi
          go_wp2_with fail
          refine (l1In_any _ _ _ _).mono ?_; rintro e wx ⟨rfl, rfl⟩
          rw [ht]
          clear ht
          go_wp2
          go_ret2
          exact ⟨none, 0, 0, rfl, World.ownsRow_nil _ _ _ _, Below.refl _ _⟩
        · obtain ⟨t1, t2⟩ := inB_true ht
          have HC := Lib.hid (fun wx => laCan_any x t l u wx x1 x2 l1 l2 t1 (by omega))
          cases hc : canS x t l u
          · have hb : bsB L I t l u = false := by rw [HBQ.out, hc]
            rw [hb, bsR_no hb]
            rw [hc] at HC
            clear hb hc
            go_enter Tryd.func22, Tryd.ntmps22
            go_wp2_with fail
            refine (HS.out _ HRD.out).mono ?_; rintro e wx ⟨rfl, rfl⟩
            rw [hk]
            clear hk
            go_wp2_with fail
            refine (l1In_any _ _ _ _).mono ?_; rintro e wx ⟨rfl, rfl⟩
            rw [hi]
            clear hi
            go_wp2_with fail
            refine (l1In_any _ _ _ _).mono ?_; rintro e wx ⟨rfl, rfl⟩
            rw [ht]
            clear ht
            go_wp2_with fail
            refine (HC.out _).mono ?_; rintro e wx ⟨rfl, rfl⟩
            go_wp2
            go_ret2
            exact ⟨none, 0, 0, rfl, World.ownsRow_nil _ _ _ _, Below.refl _ _⟩
          · have hb : bsB L I t l u = true := by rw [HBQ.out, hc]
            rw [hb, HRQ.out hc]
            rw [hc] at HC
            have HO := Lib.hid (fun wx (hrx : Rd wx 1 (some ⟨b, o, none⟩) n (intCells L)) => l1OwnI_any (some ⟨b, o, none⟩) n c L wx hrx (by omega) (by omega))
            obtain ⟨i0, hi0, hz0, hz1, hz2⟩ := info_parts intS_info
            have w3 : IntKind.i64.wrap (x - t) = x - t := IntWalk.i64_in _ (by omega)
            clear hb hc HBQ HRQ
            go_enter Tryd.func22, Tryd.ntmps22
            go_wp2_with fail
            refine (HS.out _ HRD.out).mono ?_; rintro e wx ⟨rfl, rfl⟩
            rw [hk]
            clear hk
            go_wp2_with fail
            refine (l1In_any _ _ _ _).mono ?_; rintro e wx ⟨rfl, rfl⟩
            rw [hi]
            clear hi
            go_wp2_with fail
            refine (l1In_any _ _ _ _).mono ?_; rintro e wx ⟨rfl, rfl⟩
            rw [ht]
            clear ht
            go_wp2_with fail
            refine (HC.out _).mono ?_; rintro e wx ⟨rfl, rfl⟩
            go_wp2_with fail
            refine (HO.out _ HRD.out).mono ?_; rintro e v2 ⟨A2, c2, rfl, own2, hb2⟩
            obtain ⟨g, rfl, hg1, hg2⟩ := own_at own2 (by omega)
            have a0 := own2.cellAt I (by omega)
            obtain ⟨v0, hv0⟩ : ∃ v0, (intCells L)[I]? = some v0 := ⟨_, List.getElem?_eq_getElem (by rw [length_intCells]; exact hx)⟩
            rw [hv0] at a0
            have f0 := own2.frozenAt I
            clear hv0
            have st := (own2.stored I (.int .i64 t)).1
            rw [set_intCells] at st
            have pg : b ≠ g := by omega
            have p2 := (hb2.cell (p := ⟨b, o + I, none⟩) hbl).trans p0
            have p3 : (v2.setCell ⟨g, I, none⟩ (.int .i64 t)).cell? ⟨b, o + I, none⟩ = some (.int .i64 x) := by (repeat (first | (with_reducible refine cell_drew ?_) | (with_reducible refine cell_drewN _ ?_) | ((with_reducible refine cell_alloc ?_ ?_); · first | omega | (simp; done) | (simp; omega) | assumption) | ((with_reducible refine cell_set ?_ ?_); · first | (intro e; injection e; omega) | (intro e; simp at e; done) | (intro e; simp at e; omega)))); assumption
            have hb3 : Below w.heap.size w (v2.setCell ⟨g, I, none⟩ (.int .i64 t)) := bset hg1 _ hb2
            have hs3 : (v2.setCell ⟨g, I, none⟩ (.int .i64 t)).heap.size = v2.heap.size := by simp
            have HST := Lib.hid st
            have HB3 := Lib.hid hb3
            have HSZ : Hid (w.heap.size ≤ v2.heap.size) := hb2.size
            have hn1 := new1 (v2.setCell ⟨g, I, none⟩ (.int .i64 t)) 3 (.int .i64 (x - t))
            rw [hs3] at hn1
            have HN1 := Lib.hid hn1
            have hc3 : n + 1 ≤ maxLen := by simp only [maxLen]; omega
            have hc4 : (n + 1) * 8 ≤ 140737488355328 := by omega
            have hc5 : w.heap.size ≤ ((v2.setCell ⟨g, I, none⟩ (.int .i64 t)).alloc (.cells #[.int .i64 (x - t)] 3)).heap.size := by have := HSZ.out; simp; omega
            clear st own2 hb2 hb3 hs3 hn1
            go_wp2_with (at_builtin; refine wpList_append_own _ rfl (.tmp 57) (.tmp 64) 22 rfl w.heap.size 3 i0 (.int .i64 0) 1 8 Tryd.underlying22 hi0 hz0 hz1 hz2 rfl (by decide) _ _ _ rfl (HST.out.alloc _) ⟨v2.heap.size, 0, none⟩ 1 1 [.int .i64 (x - t)] rfl rfl HN1.out (int_oneCell [_]) hc3 hc4 hc5 ?_)
            intro v' w4 hown' hgrow _
            have hb4 := bgrow (HB3.out.alloc (by simp; exact HSZ.out) (.cells #[.int .i64 (x - t)] 3)) (HST.out.alloc _) hgrow (by have := HSZ.out; simp; omega)
            obtain ⟨A', c', rfl⟩ := own_slice hown'
            have HO4 := Lib.hid hown'
            have HB4 := Lib.hid hb4
            clear hown' hb4 hgrow hc3 hc4 hc5
            go_wp2
            go_ret2
            exact ⟨A', n + 1, c', rfl, by rw [intCells_append]; exact HO4.out, HB4.out⟩
end Go.Proofs.YthemmckchmpicabDoor
