/-
  Contracts: IsStack of the program and of the model. Conditions: none.
-/
import Derived.Test.YtkijcpbjjbhnhabStkI
namespace Go.Proofs.Ytkijcpbjjbhnhab
open Go.RowKit
set_option linter.unusedVariables false
set_option linter.unusedSimpArgs false

set_option maxRecDepth 100000 in
set_option maxHeartbeats 2000000 in
theorem stackTester_any (A : Option Addr) (n c : Nat) (S : List Sb) (w : World) (hr : Rd w 2 A n (pairCells S)) (hn : n ≤ 7) :
    Calls Try.prog 30 #[.slice A n c] w fun e w' => ∃ bs bg, e = .returned (.func (.func 40) #[] #[.pointer (some ⟨bs, 0, none⟩), .pointer (some ⟨bg, 0, none⟩)]) ∧ TstAt w' bs bg S ∧ Below w.heap.size w w' := by
  have hmf : ∀ (fn : Fn) (first cap : Array Value) (w : World), (Instr.makeFunc fn first cap).run Try.prog w = .ok (.func fn first cap) w := fun _ _ _ _ => rfl
  have hst : ∀ (a : Addr) (fn : Fn) (x y : Array Value) (w : World), (store a (.func fn x y)).run Try.prog w = stored Try.prog w a (.func fn x y) .plain := fun a fn x y w => run_store Try.prog w a (.func fn x y) .plain rfl
  have b1 : Below w.heap.size w (w.alloc (.cells #[.slice A n c] 27)) := by (repeat (first | (with_reducible exact Below.refl _ _) | (with_reducible assumption) | (with_reducible refine Below.drew ?_) | ((with_reducible refine balloc ?_ _ ?_); · (first | (simp; done) | (simp; omega) | omega)) | ((with_reducible refine bset ?_ _ ?_); · (first | (simp; done) | (simp; omega) | omega)) | (with_reducible refine bdrewN _ ?_) | ((with_reducible refine bcall ?_ (by assumption) ?_); · (first | (simp; done) | (simp; omega) | omega))))
  have c1 : (w.alloc (.cells #[.slice A n c] 27)).cell? ⟨w.heap.size, 0, none⟩ = some (.slice A n c) := by simp [go_sem]
  have z1 : w.heap.size < (w.alloc (.cells #[.slice A n c] 27)).heap.size := by simp
  have C1 := Lib.hid c1
  have B1 := Lib.hid b1
  have Z1 := Lib.hid z1
  go_enter Try.func30, Try.ntmps30
  go_wp2_with fail
  refine (weightsOf_any A n c S _ (hr.later b1 (Nat.le_refl _)) (by omega)).mono ?_; rintro e w2 ⟨⟨A', c', rfl, own2⟩, hb2⟩
  have s2 := hb2.size
  have B2 := Lib.hid hb2
  have O2 := Lib.hid (Rd.of_own own2)
  clear own2 hb2 c1 b1 z1
  go_wp2_with fail
  refine (weigher_any A' n c' _).mono ?_; rintro e w3 ⟨⟨bw, rfl, cw3, lw3, lw4⟩, hb3⟩
  have s3 := hb3.size
  have B3 := Lib.hid hb3
  have CW := Lib.hid cw3
  clear hb3 cw3
  go_wp2
  go_ret
  have q1 := Z1.out
  have r0 : Rd (w.alloc (.cells #[.slice A n c] 27)) 2 A n (pairCells S) := hr.later B1.out (Nat.le_refl _)
  have B4 : Below w3.heap.size w3 (w3.alloc (.cells #[.func (.func 44) #[] #[.pointer (some ⟨bw, 0, none⟩)]] 53)) := (Below.refl _ _).alloc (Nat.le_refl _) _
  refine ⟨w.heap.size, w3.heap.size, rfl, ⟨A, n, c, A', n, c', bw, ?_, ?_, ?_, ?_, ?_, ?_, ?_, ?_⟩, ?_⟩
  · exact (B4.cell (p := ⟨w.heap.size, 0, none⟩) (by show w.heap.size < w3.heap.size; omega)).trans ((B3.out.cell (p := ⟨w.heap.size, 0, none⟩) (by show w.heap.size < w2.heap.size; omega)).trans ((B2.out.cell (p := ⟨w.heap.size, 0, none⟩) q1).trans C1.out))
  · exact ((r0.later B2.out (Nat.le_refl _)).later B3.out (Nat.le_refl _)).later B4 (Nat.le_refl _)
  · simp [go_sem]
  · exact (B4.cell (p := ⟨bw, 0, none⟩) lw4).trans CW.out
  · exact (O2.out.later B3.out (Nat.le_refl _)).later B4 (Nat.le_refl _)
  · simp; omega
  · simp
  · simp; omega
  · exact (((B1.out.trans (B2.out.mono (by simp)))).trans (B3.out.mono (by omega))).trans (B4.mono (by omega))

def isV (S : List Sb) (o : List Int) : Bool := if slB S then stk S o else false

set_option maxRecDepth 100000 in
set_option maxHeartbeats 2000000 in
theorem isStack_any (A : Option Addr) (n c : Nat) (S : List Sb) (Ao : Option Addr) (no co : Nat) (o : List Int) (w : World) (hr : Rd w 2 A n (pairCells S)) (hro : Rd w 1 Ao no (intCells o)) (hn : n ≤ 4000000000) (hno : no ≤ 1048576) (hco : no ≤ co) (hco2 : co ≤ 4000000000) :
    Calls Try.prog 12 #[.slice A n c, .slice Ao no co] w fun e w' => e = .returned (.tuple #[.bool (isV S o), .bool (slB S)]) ∧ Below w.heap.size w w' := by
  have hll : S.length = n := by have := hr.1; rw [length_pairCells] at this; omega
  cases h : slB S
  · rw [show isV S o = false by simp [isV, h]]
    clear hll
    go_enter Try.func12, Try.ntmps12
    go_wp2_with fail
    refine (areSlabs_any _ _ _ S _ hr hn).mono ?_; rintro e w1 ⟨rfl, hb1⟩
    rw [h]
    go_wp2
    go_ret2
    exact ⟨rfl, hb1⟩
  · rw [show isV S o = stk S o by simp [isV, h]]
    have hl := slB_len h
    have hn7 : n ≤ 7 := by omega
    have HS := Lib.hid h
    clear hll hl
    go_enter Try.func12, Try.ntmps12
    go_wp2_with fail
    refine (areSlabs_any _ _ _ S _ hr hn).mono ?_; rintro e w1 ⟨rfl, hb1⟩
    rw [h]
    clear h
    go_wp2_with fail
    refine (stackTester_any A n c S _ (hr.later hb1 (Nat.le_refl _)) hn7).mono ?_; rintro e w2 ⟨bs, bg, rfl, hT, hb2⟩
    have s1 := hb1.size
    have s2 := hb2.size
    go_wp2_with fail
    refine (tester_any Ao no co o bs bg S _ HS.out ((hro.later hb1 (Nat.le_refl _)).later hb2 (Nat.le_refl _)) hno hco (by omega) hT).mono ?_; rintro e w3 ⟨rfl, hb3⟩
    go_wp2
    go_ret2
    exact ⟨rfl, (hb1.trans (hb2.mono s1)).trans (hb3.mono (by omega))⟩

theorem Rd.takeW {w : World} {n : Nat} {A : Option Addr} {l : List Int} (h : Rd w 1 A n (intCells l)) {k : Nat} (hk : k ≤ n) : Rd w 1 A k (intCells (l.take k)) := by
  have hl := h.ilen
  refine ⟨by rw [length_intCells, List.length_take]; omega, fun hn => ?_⟩
  obtain ⟨b, o, e, hb, hc⟩ := h.2 (by omega)
  refine ⟨b, o, e, hb, fun j u hu => hc _ _ ?_⟩
  rw [← hu]
  have hj : j < k := by have := (List.getElem?_eq_some_iff.1 hu).1; rw [length_intCells, List.length_take] at this; omega
  simp only [intCells, List.getElem?_map]
  rw [List.getElem?_take_of_lt hj]
/-- from one on, none comes before -/
def freshF (o : List Int) (k : Nat) : Prop := ∀ m, k ≤ m → ∀ z, o[m]? = some z → hasI (o.take m) z = false
theorem freshF_step {o : List Int} {j : Nat} {x : Int} (h : freshF o (j + 1)) (hx : o[j]? = some x) (hh : hasI (o.take j) x = false) : freshF o j := by
  intro m hm z hz
  by_cases e : m = j
  · subst e; rw [hx] at hz; cases hz; exact hh
  · exact h m (by omega) z hz
theorem freshF_not {o : List Int} {j : Nat} {x : Int} (h : freshF o (j + 1)) (hx : o[j]? = some x) : hasI (o.drop (j + 1)) x = false := by
  rw [hasI_not]
  intro hm
  obtain ⟨i, hi, e⟩ := List.getElem_of_mem hm
  have h2 : o[j + 1 + i]? = some x := by
    rw [← List.getElem?_drop, List.getElem?_eq_getElem hi, e]
  have h3 := h (j + 1 + i) (by omega) x h2
  rw [hasI_not] at h3
  exact h3 (List.mem_of_getElem? (i := j) (by rw [List.getElem?_take_of_lt (by omega)]; exact hx))
theorem stk_fresh {S : List Sb} {o : List Int} {j : Nat} {x : Int} (hx : o[j]? = some x) (hh : hasI (o.take j) x = true) : stk S o = false := by
  cases e : stk S o
  · rfl
  · have hn := stk_nodup e
    rw [← List.take_append_drop j o, List.nodup_append] at hn
    have hm : x ∈ o.drop j := List.mem_of_getElem? (i := 0) (by rw [List.getElem?_drop]; simpa using hx)
    exact absurd rfl (hn.2.2 x (hasI_iff.1 hh) x hm)

set_option maxRecDepth 100000 in
set_option maxHeartbeats 4000000 in
theorem skIs_any (A : Option Addr) (n c : Nat) (S : List Sb) (Ao : Option Addr) (no co : Nat) (o : List Int) (w : World) (hS : slB S = true) (hr : Rd w 2 A n (pairCells S)) (hro : Rd w 1 Ao no (intCells o)) (hno : no ≤ 1048576) (hco : no ≤ co) :
    Calls Try.prog 27 #[.slice A n c, .slice Ao no co] w fun e w' => e = .returned (.bool (stk S o)) ∧ w = w' := by
  have hll : S.length = n := by have := hr.1; rw [length_pairCells] at this; omega
  have HL := Lib.hid hll
  have HLO := Lib.hid hro.ilen
  have HSB := Lib.hid hS
  have hl7 := slB_len hS
  have hn7 : n ≤ 7 := by omega
  have hn1 : 1 ≤ n := by omega
  cases hin : allIn 0 ((n : Int) - 1) o
  · have HF : Hid (stk S o = false) := by
      cases e : stk S o
      · exact rfl
      · have : allIn 0 ((n : Int) - 1) o = true := List.all_eq_true.2 (fun z hz => by have := stk_in e z hz; simp [inB]; omega)
        rw [this] at hin; cases hin
    clear hll hl7 hS
    go_enter Try.func27, Try.ntmps27
    go_wp2_with fail
    refine (l1AllG_any _ _ _ o _ _ _ hro (by omega)).mono ?_; rintro e wx ⟨rfl, rfl⟩
    rw [hin]
    go_wp2
    go_ret
    exact ⟨ret_bool HF.out.symm, rfl⟩
  · have HIN : Hid (∀ z ∈ o, 0 ≤ z ∧ z < S.length) := fun z hz => by have := allIn_mem hin z hz; omega
    have HIN2 := Lib.hid hin
    clear hll hl7 hS
    go_enter Try.func27, Try.ntmps27
    go_wp2_with fail
    refine (l1AllG_any _ _ _ o _ _ _ hro (by omega)).mono ?_; rintro e wx ⟨rfl, rfl⟩
    rw [hin]
    go_wp2
    clear hin
    go_loop [5, 6] (fun s p => ∃ k : Nat, k ≤ no ∧ p = .int .i64 ((k : Int) - 1) ∧ s = .int .i64 (wsum S (o.drop k)) ∧ Hid (stk S (o.drop k) = true ∧ freshF o k)) (fun _ p => ((intOf p) + 1).toNat)
    case atStart => exact ⟨no, Nat.le_refl _, rfl, by rw [List.drop_of_length_le (by rw [HLO.out]; exact Nat.le_refl _)]; rfl, by rw [List.drop_of_length_le (by rw [HLO.out]; exact Nat.le_refl _)]; rfl, fun m hm z hz => by have := (List.getElem?_eq_some_iff.1 hz).1; have := HLO.out; omega⟩
    case round =>
      obtain ⟨k, hk, rfl, rfl, hD⟩ := hrel
      by_cases hk0 : k = 0
      · subst hk0
        have HF : Hid (stk S o = true) := by have := hD.out.1; rwa [List.drop_zero] at this
        go_wp2
        go_ret
        exact ⟨ret_bool HF.out.symm, rfl⟩
      · obtain ⟨j, rfl⟩ : ∃ j, k = j + 1 := ⟨k - 1, by omega⟩
        obtain ⟨b, q, rfl, hbl, hx, p1⟩ := hro.num (show j < no by omega)
        have hxs : o[j]? = some o[j] := List.getElem?_eq_getElem hx
        have HSD := Lib.hid (stk_drop (S := S) hx)
        have hzin := HIN.out _ (List.getElem_mem hx)
        have hwd : wsum S (o.drop j) = wOf S o[j] + wsum S (o.drop (j + 1)) := by rw [List.drop_eq_getElem_cons hx, wsum_cons]
        have HWD := Lib.hid hwd
        clear hwd
        generalize o[j] = x at *
        clear hx
        obtain ⟨xn, rfl⟩ : ∃ xn : Nat, x = xn := ⟨x.toNat, by omega⟩
        have hxn : xn < n := by have := HL.out; omega
        obtain ⟨b2, q2, rfl, hb2, hx2, p2a, p2b⟩ := hr.pair hxn
        have HBO : Hid (bOf S (xn : Int) = (S[xn]).2) := by
          simp only [Hid]; unfold bOf
          rw [Int.toNat_natCast, List.getD_eq_getElem?_getD, List.getElem?_eq_getElem hx2]; rfl
        have HWO : Hid (wOf S (xn : Int) = (S[xn]).1) := by
          simp only [Hid]; unfold wOf
          rw [Int.toNat_natCast, List.getD_eq_getElem?_getD, List.getElem?_eq_getElem hx2]; rfl
        have hbd := slB_at HSB.out hx2
        generalize hz2 : (S[xn]).2 = y at *
        generalize hz3 : (S[xn]).1 = v at *
        clear hz2 hz3
        have HXS := Lib.hid hxs
        have hsb := wsum_in HSB.out (o := o.drop (j + 1)) (fun z hz => HIN.out z (List.mem_of_mem_drop hz))
        have hdl : (o.drop (j + 1)).length ≤ 1048576 := by rw [List.length_drop, HLO.out]; omega
        have hs1 : 0 ≤ wsum S (o.drop (j + 1)) ∧ wsum S (o.drop (j + 1)) ≤ 1048576000 := by omega
        have hfr := hD.out.2
        have hsd := HSD.out
        rw [hD.out.1, Bool.true_and, freshF_not hfr hxs, HBO.out] at hsd
        have HSD2 : Hid (stk S (o.drop j) = decide (wsum S (o.drop (j + 1)) ≤ y)) := by
          simp only [Hid]; rw [hsd]; simp [inR]; intro; have := HL.out; omega
        rw [HWO.out] at HWD
        have HFR := Lib.hid hfr
        have hhc := Lib.hid (l1HasI_any (some ⟨b, q, none⟩) j co (o.take j) (xn : Int) w (hro.takeW (by omega)) (by omega))
        have hjc : j ≤ co := by omega
        clear hxs hsd hfr hsb hdl HSD hzin hx2
        generalize wsum S (o.drop (j + 1)) = s at *
        obtain ⟨hs1a, hs1b⟩ := hs1
        cases hh : hasI (o.take j) (xn : Int)
        · by_cases hsy : s ≤ y
          · have HF : Hid (stk S (o.drop j) = true ∧ freshF o j) := ⟨by rw [HSD2.out]; exact decide_eq_true hsy, freshF_step HFR.out HXS.out hh⟩
            have hd2 : decide (y < s) = false := by simp; exact hsy
            rw [hh] at hhc
            go_wp2_with (go_at_call 38; refine hhc.out.mono ?_; rintro e wx ⟨rfl, rfl⟩)
            go_round
            case rel => exact ⟨j, by omega, by (first | rfl | go_num), by rw [HWD.out]; congr 1; omega, HF⟩
            case measure => first | (simp [intOf]; done) | (simp [intOf]; omega)
          · have HF : Hid (stk S o = false) := stk_no j (by rw [HSD2.out]; exact decide_eq_false hsy)
            have hd2 : decide (y < s) = true := by simp; omega
            rw [hh] at hhc
            go_wp2_with (go_at_call 38; refine hhc.out.mono ?_; rintro e wx ⟨rfl, rfl⟩)
            go_ret
            exact ⟨ret_bool HF.out.symm, rfl⟩
        · have HF := Lib.hid (stk_fresh (S := S) HXS.out hh)
          rw [hh] at hhc
          go_wp2_with (go_at_call 38; refine hhc.out.mono ?_; rintro e wx ⟨rfl, rfl⟩)
          go_ret
          exact ⟨ret_bool HF.out.symm, rfl⟩

set_option maxRecDepth 100000 in
set_option maxHeartbeats 2000000 in
theorem sIsStack_any (A : Option Addr) (n c : Nat) (S : List Sb) (Ao : Option Addr) (no co : Nat) (o : List Int) (w : World) (hr : Rd w 2 A n (pairCells S)) (hro : Rd w 1 Ao no (intCells o)) (hn : n ≤ 4000000000) (hno : no ≤ 1048576) (hco : no ≤ co) (hco2 : co ≤ 4000000000) :
    Calls Try.prog 9 #[.slice A n c, .slice Ao no co] w fun e w' => e = .returned (.tuple #[.bool (isV S o), .bool (slB S)]) ∧ Below w.heap.size w w' := by
  cases h : slB S
  · rw [show isV S o = false by simp [isV, h]]
    go_enter Try.func9, Try.ntmps9
    go_wp2_with fail
    refine (skSlabs_any _ _ _ S _ hr hn).mono ?_; rintro e w1 ⟨rfl, hb1⟩
    rw [h]
    go_wp2
    go_ret2
    exact ⟨rfl, hb1⟩
  · rw [show isV S o = stk S o by simp [isV, h]]
    have HS := Lib.hid h
    go_enter Try.func9, Try.ntmps9
    go_wp2_with fail
    refine (skSlabs_any _ _ _ S _ hr hn).mono ?_; rintro e w1 ⟨rfl, hb1⟩
    rw [h]
    clear h
    go_wp2_with fail
    refine (skIs_any A n c S Ao no co o _ HS.out (hr.later hb1 (Nat.le_refl _)) (hro.later hb1 (Nat.le_refl _)) hno hco).mono ?_; rintro e w2 ⟨rfl, rfl⟩
    go_wp2
    go_ret2
    exact ⟨rfl, hb1⟩

end Go.Proofs.Ytkijcpbjjbhnhab
