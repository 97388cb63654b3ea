/-
  Words and contracts: a slice of numbers that came in, opened; the laws' copy of a slice of numbers.
-/
import Derived.Test.YtghlgmbekgfmnaaIKit
namespace Go.Proofs.Ytghlgmbekgfmnaa
open Go.ChangeShapes Go.WideShapes Go.ChangeAt Go.RowKit Go.Joins Go.Deep

theorem addr_add (b o j : Nat) : (⟨b, o, none⟩ : Addr).add j = ⟨b, o + j, none⟩ := by unfold Addr.add; split <;> simp_all

section
variable {H : Type} {enc : TypeId × Value → H} {P : Program} {w : World} {base : Nat} {spare : Nat → Bool} {held : Bool}
/-- the cells of a slice of numbers, off what 'open_ints' says -/
theorem rd_ints {a : Addr} {n : Nat} {zs : List Int} (hz : n ≤ zs.length) (hc : ∀ i, i < zs.length → w.cell? (a.add i) = some (.int .i64 (zs.getD i 0))) : Rd w 1 (some a) n (intCells (zs.take n)) := by
  refine ⟨by simp [intCells]; omega, fun h0 => ?_⟩
  have z0 := hc 0 (by omega)
  have hs := World.cell?_spot z0
  obtain ⟨b, o, sp⟩ := a
  have hsp : sp = none := by simpa [Addr.add] using hs
  subst hsp
  refine ⟨b, o, rfl, World.block_lt_of_cell? w _ (by simpa [Addr.add] using z0), fun j u hu => ?_⟩
  have hj : j < n := by have := (List.getElem?_eq_some_iff.1 hu).1; simp [intCells] at this; omega
  have q := hc j (by omega)
  rw [addr_add] at q
  rw [q, ← hu]
  simp [intCells, hj, List.getD, List.getElem?_eq_getElem (show j < zs.length by omega)]

theorem open_intL {t e : TypeId} {A : Option Addr} {n c : Nat} {d : DataW H} {ps : List MemPlace} (ht : P.underlying t = some (.slice e)) (he : P.underlying e = some (.int .i64)) (hc : P.cellsOf e = 1)
    (h : DataW.Trod enc P w base spare held t (.slice A n c) d ps) : ∃ xs : List Int, Rd w 1 A n (intCells xs) ∧ (∀ z ∈ xs, (Lit.int .i64 z).wf = true) ∧ n ≤ 9223372036854775807 := by
  obtain ⟨fuel, hf⟩ := h
  rcases Go.ChangeShapes.open_ints ht he hc hf with ⟨hcs, _⟩ | ⟨a, len, cap, zs, hcs, _, hl, hcm, hzl, _, hcell, hwf⟩
  · simp [Value.cells] at hcs
    obtain ⟨rfl, rfl, rfl⟩ := hcs
    exact ⟨[], Rd.nil _ _, by simp, by omega⟩
  · simp [Value.cells] at hcs
    obtain ⟨rfl, rfl, rfl⟩ := hcs
    have hlm : n ≤ zs.length := by rw [hzl]; split <;> omega
    unfold maxLen at hcm
    exact ⟨zs.take n, rd_ints hlm hcell, fun z hz => hwf z (List.mem_of_mem_take hz), by omega⟩
end

theorem int_info : (Try.prog.info? 3).map (fun i => (i.zero, i.size, i.bytes)) = some (some (.int .i64 0), 1, 8) := by kernel_rfl

theorem take_setI (cs : List Value) (m : Nat) (a : Value) (h : m < cs.length) : (cs.set m a).take (m + 1) = cs.take m ++ [a] := by
  rw [List.take_succ_eq_append_getElem (by simpa using h), List.take_set_of_le (Nat.le_refl m)]
  simp

set_option maxRecDepth 100000 in
set_option maxHeartbeats 1000000 in
theorem toIntS_any (A : Option Addr) (n c : Nat) (xs : List Int) (w : World) (hr : Rd w 1 A n (intCells xs)) (hn : n ≤ 1048576) :
    Calls Try.prog 27 #[.slice A n c] w fun e w' => ∃ g, e = .returned (.slice (some ⟨g, 0, none⟩) n n) ∧ w'.ownsRow w.heap.size 3 1 (.slice (some ⟨g, 0, none⟩) n n) n (intCells xs) ∧ Below w.heap.size w w' := by
  obtain ⟨i0, hi, hz0, hz1, hz2⟩ := info_parts int_info
  go_enter Try.func27, Try.ntmps27
  go_wp2_with (at_make; refine wpList_make_full _ rfl (.tmp 6) (.tmp 6) 39 rfl w.heap.size 3 i0 (.int .i64 0) 1 Try.underlying39 hi hz0 hz1 .i64 .i64 _ _ n rfl rfl rfl rfl ?b2 ?b3 (Nat.le_refl _) ?_)
  case b2 => rw [hz2]; omega
  case b3 => simp only [maxLen]; omega
  · intro w1 hown hgrow
    have hb1 : Below w.heap.size w w1 := (Below.refl _ _).grown hgrow (Nat.le_refl _) (fun k hk => by cases hk)
    have sw1 := hb1.size
    have hxl : xs.length = n := hr.ilen
    have HXL := Lib.hid hxl
    clear hgrow hxl
    go_wp2
    go_loopw [4] (fun i wr => ∃ (k : Nat) (cs : List Value), k ≤ n ∧ i = .int .i64 k ∧ wr.ownsRow w.heap.size 3 1 (.slice (some ⟨w.heap.size, 0, none⟩) n n) n cs ∧ Hid (cs.take k = intCells (xs.take k)) ∧ Below w.heap.size w wr) (fun i _ => n - (intOf i).toNat)
    case atStart => exact ⟨0, _, Nat.zero_le _, rfl, hown, by simp [Hid, intCells], hb1⟩
    case round =>
      clear hown
      obtain ⟨k, cs, hk, rfl, hown, hT, hB⟩ := hrel
      have sB := hB.size
      by_cases hlt : k < n
      · obtain ⟨b, o, rfl, hbl, hx, p1⟩ := (hr.later hB (Nat.le_refl _)).num hlt
        generalize hq : xs[k] = q at *
        have HQ := Lib.hid hq
        clear hq
        have lcs : cs.length = n * 1 := hown.1
        have hgl := hown.lt w.heap.size (by simp [Value.ownBlock])
        have a0 := hown.cellAt k (by omega)
        rw [List.getElem?_eq_getElem (by omega)] at a0
        have f0 := hown.frozenAt k
        have st := (hown.stored k (.int .i64 q))
        have ST := Lib.hid st.1
        have HT := Lib.hid (take_setI cs k (.int .i64 q) (by omega))
        generalize cs[k] = v0 at a0
        clear st hown lcs
        go_wp2
        go_roundw
        case rel =>
          refine ⟨k + 1, _, by omega, by go_num, ST.out, ?_, by (repeat (first | (with_reducible exact Below.refl _ _) | (with_reducible assumption) | (with_reducible refine Below.drew ?_) | ((with_reducible refine balloc ?_ _ ?_); · (first | (simp; done) | (simp; omega) | omega)) | ((with_reducible refine bset ?_ _ ?_); · (first | (simp; done) | (simp; omega) | omega)) | (with_reducible refine bdrewN _ ?_) | ((with_reducible refine bcall ?_ (by assumption) ?_); · (first | (simp; done) | (simp; omega) | omega))))⟩
          have h := hT.out
          have h2 := HT.out
          simp only [Hid]
          rw [h2, h, List.take_succ_eq_append_getElem hx, HQ.out, intCells_append]
          rfl
        case measure => simp [intOf]; omega
      · go_wp2
        go_ret
        have hkn : k = n := by omega
        subst hkn
        have h := hT.out
        rw [List.take_of_length_le (by have := hown.1; omega), List.take_of_length_le (by rw [HXL.out]; exact Nat.le_refl _)] at h
        subst h
        exact ⟨w.heap.size, rfl, hown, hB⟩

end Go.Proofs.Ytghlgmbekgfmnaa
