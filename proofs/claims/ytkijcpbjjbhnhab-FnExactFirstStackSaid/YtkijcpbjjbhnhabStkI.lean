/-
  Contracts: what tests stacks in the program: slices.Contains at int, the model's l1Has, weightsOf, weigher and its closure, stackTester and its closure. Conditions: none.
-/
import Derived.Test.YtkijcpbjjbhnhabStkA
import Derived.Test.YtkijcpbjjbhnhabReg
import Derived.Test.YtkijcpbjjbhnhabRegR
import Derived.OwnWalk
import Derived.Deep.AppendLies
namespace Go.Proofs.Ytkijcpbjjbhnhab
open Go.RowKit
set_option linter.unusedVariables false
set_option linter.unusedSimpArgs false

/-- a number is in a list -/
def hasI (l : List Int) (x : Int) : Bool := decide (x ∈ l)
theorem hasI_iff {l : List Int} {x : Int} : hasI l x = true ↔ x ∈ l := by simp [hasI]
theorem hasI_not {l : List Int} {x : Int} : hasI l x = false ↔ ¬ x ∈ l := by simp [hasI]
theorem contains_take {l : List Int} {x : Int} {k : Nat} (hk : k < l.length) (h : hasI (l.take k) x = false) (hx : ¬ l[k] = x) : hasI (l.take (k + 1)) x = false := by
  rw [hasI_not] at h ⊢
  rw [List.take_succ_eq_append_getElem hk, List.mem_append]
  rintro (h1 | h1)
  · exact h h1
  · exact hx (List.mem_singleton.1 h1).symm
theorem contains_at {l : List Int} {x : Int} {k : Nat} (hk : k < l.length) (hx : l[k] = x) : hasI l x = true := by
  subst hx; exact hasI_iff.2 (List.getElem_mem hk)

set_option maxRecDepth 100000 in
set_option maxHeartbeats 1000000 in
theorem indexI_any (A : Option Addr) (n c : Nat) (l : List Int) (x : Int) (w : World) (hr : Rd w 1 A n (intCells l)) (hn : n ≤ 4000000000) :
    Calls Try.prog 45 #[.slice A n c, .int .i64 x] w fun e w' => (∃ v : Int, e = .returned (.int .i64 v) ∧ decide (0 ≤ v) = hasI l x) ∧ w = w' := by
  have HL := Lib.hid hr.ilen
  go_enter Try.func45, Try.ntmps45
  go_wp2
  go_loop [8] (fun i => ∃ k : Nat, k ≤ n ∧ i = .int .i64 k ∧ Hid (hasI (l.take k) x = false)) (fun i => n - (intOf i).toNat)
  case atStart => exact ⟨0, Nat.zero_le _, rfl, by simp [Hid, hasI]⟩
  case round =>
    obtain ⟨k, hk, rfl, hT⟩ := hrel
    by_cases hlt : k < n
    · obtain ⟨b, o, rfl, hbl, hx, p1⟩ := hr.num hlt
      have HN : Hid (¬ l[k] = x → hasI (l.take (k + 1)) x = false) := fun h => contains_take hx hT.out h
      have HY : Hid (l[k] = x → hasI l x = true) := fun h => contains_at hx h
      generalize l[k] = z at *
      clear hx
      by_cases hz : z = x
      · have HF := Lib.hid (HY.out hz)
        subst hz
        go_wp2
        go_ret
        exact ⟨⟨k, rfl, by rw [HF.out]; simp⟩, rfl⟩
      · have HF := Lib.hid (HN.out hz)
        have h1 : (x == z) = false := by simp; exact fun e => hz e.symm
        clear hz
        go_wp2
        go_round
        case rel => exact ⟨k + 1, by omega, by go_num, HF⟩
        case measure => simp [intOf]; omega
    · go_wp2
      go_ret
      have hT := hT.out
      rw [List.take_of_length_le (by rw [HL.out]; omega)] at hT
      exact ⟨⟨-1, rfl, by rw [hT]; rfl⟩, rfl⟩

set_option maxRecDepth 100000 in
set_option maxHeartbeats 1000000 in
theorem containsI_any (A : Option Addr) (n c : Nat) (l : List Int) (x : Int) (w : World) (hr : Rd w 1 A n (intCells l)) (hn : n ≤ 4000000000) :
    Calls Try.prog 41 #[.slice A n c, .int .i64 x] w fun e w' => e = .returned (.bool (hasI l x)) ∧ w = w' := by
  go_enter Try.func41, Try.ntmps41
  go_wp2_with fail
  refine (indexI_any _ _ _ l _ _ hr hn).mono ?_; rintro e wx ⟨⟨v, rfl, hv⟩, rfl⟩
  have HV := Lib.hid hv
  clear hv
  go_wp2
  go_ret
  exact ⟨ret_bool HV.out, rfl⟩

set_option maxRecDepth 100000 in
set_option maxHeartbeats 1000000 in
theorem l1HasI_any (A : Option Addr) (n c : Nat) (l : List Int) (x : Int) (w : World) (hr : Rd w 1 A n (intCells l)) (hn : n ≤ 4000000000) :
    Calls Try.prog 38 #[.slice A n c, .int .i64 x] w fun e w' => e = .returned (.bool (hasI l x)) ∧ w = w' := by
  have HL := Lib.hid hr.ilen
  go_enter Try.func38, Try.ntmps38
  go_wp2
  go_loop [9] (fun i => ∃ k : Nat, k ≤ n ∧ i = .int .i64 k ∧ Hid (hasI (l.take k) x = false)) (fun i => n - (intOf i).toNat)
  case atStart => exact ⟨0, Nat.zero_le _, rfl, by simp [Hid, hasI]⟩
  case round =>
    obtain ⟨k, hk, rfl, hT⟩ := hrel
    by_cases hlt : k < n
    · obtain ⟨b, o, rfl, hbl, hx, p1⟩ := hr.num hlt
      have HN : Hid (¬ l[k] = x → hasI (l.take (k + 1)) x = false) := fun h => contains_take hx hT.out h
      have HY : Hid (l[k] = x → hasI l x = true) := fun h => contains_at hx h
      generalize l[k] = z at *
      clear hx
      by_cases hz : z = x
      · have HF := Lib.hid (HY.out hz)
        subst hz
        go_wp2
        go_ret
        exact ⟨by rw [HF.out]; rfl, rfl⟩
      · have HF := Lib.hid (HN.out hz)
        have h1 : (z == x) = false := by simp; exact hz
        clear hz
        go_wp2
        go_round
        case rel => exact ⟨k + 1, by omega, by go_num, HF⟩
        case measure => simp [intOf]; omega
    · go_wp2
      go_ret
      have hT := hT.out
      rw [List.take_of_length_le (by rw [HL.out]; omega)] at hT
      exact ⟨by rw [hT]; rfl, rfl⟩

/-- how heavy some are together, of weights -/
def wtsum (W : List Int) (o : List Int) : Int := (o.map fun k => W.getD k.toNat 0).sum
theorem wtsum_fst (S : List Sb) (o : List Int) : wtsum (S.map Prod.fst) o = wsum S o := by
  unfold wtsum wsum
  congr 1
  apply List.map_congr_left
  intro k _
  unfold wOf
  simp only [List.getD_eq_getElem?_getD, List.getElem?_map]
  cases S[k.toNat]? <;> simp
theorem wtsum_take {W o : List Int} {k : Nat} (h : k < o.length) : wtsum W (o.take (k + 1)) = wtsum W (o.take k) + W.getD (o[k]).toNat 0 := by
  unfold wtsum
  rw [List.take_succ_eq_append_getElem h, List.map_append, List.sum_append]
  simp
theorem wtsum_bound {W o : List Int} (hW : ∀ z ∈ W, 0 ≤ z ∧ z ≤ 1000) (ho : ∀ z ∈ o, 0 ≤ z ∧ z < W.length) : 0 ≤ wtsum W o ∧ wtsum W o ≤ 1000 * o.length := by
  unfold wtsum
  have := sumW_bound (l := o.map fun k => W.getD k.toNat 0) (fun z hz => by
    obtain ⟨k, hk, rfl⟩ := List.mem_map.1 hz
    have h := ho k hk
    rw [List.getD_eq_getElem?_getD, List.getElem?_eq_getElem (show k.toNat < W.length by omega)]
    exact hW _ (List.getElem_mem _))
  simpa using this

set_option maxRecDepth 100000 in
set_option maxHeartbeats 2000000 in
theorem weigh_any (Ao : Option Addr) (no co : Nat) (o : List Int) (Aw : Option Addr) (nw cw : Nat) (W : List Int) (bw : Nat) (w : World) (hro : Rd w 1 Ao no (intCells o)) (hno : no ≤ 1048576)
    (hc : w.cell? ⟨bw, 0, none⟩ = some (.slice Aw nw cw)) (hrw : Rd w 1 Aw nw (intCells W)) (hW : ∀ z ∈ W, 0 ≤ z ∧ z ≤ 1000) (ho : ∀ z ∈ o, 0 ≤ z ∧ z < W.length) (hnw : nw ≤ 1000) :
    Calls Try.prog 44 #[.slice Ao no co, .pointer (some ⟨bw, 0, none⟩)] w fun e w' => e = .returned (.int .i64 (wtsum W o)) ∧ w = w' := by
  have HL := Lib.hid hro.ilen
  have HLW := Lib.hid hrw.ilen
  have HW := Lib.hid hW
  have HO := Lib.hid ho
  clear hW ho
  go_enter Try.func44, Try.ntmps44
  go_wp2
  go_loop [4, 9] (fun s i => ∃ k : Nat, k ≤ no ∧ i = .int .i64 k ∧ s = .int .i64 (wtsum W (o.take k))) (fun _ i => no - (intOf i).toNat)
  case atStart => exact ⟨0, Nat.zero_le _, rfl, by simp [wtsum]⟩
  case round =>
    obtain ⟨k, hk, rfl, rfl⟩ := hrel
    by_cases hlt : k < no
    · obtain ⟨b1, o1, rfl, _, hx, p1⟩ := hro.num hlt
      have hz := HO.out _ (List.getElem_mem hx)
      have b2 := wtsum_bound (o := o.take k) HW.out (fun z hz => HO.out z (List.mem_of_mem_take hz))
      have b3 : (o.take k).length ≤ 1048576 := by rw [List.length_take]; omega
      have HS := Lib.hid (wtsum_take (W := W) hx)
      generalize o[k] = z at *
      obtain ⟨q, rfl⟩ : ∃ q : Nat, z = q := ⟨z.toNat, by omega⟩
      have hq : q < nw := by have := HLW.out; omega
      obtain ⟨b4, o4, rfl, _, hx4, p4⟩ := hrw.num hq
      have hv := HW.out _ (List.getElem_mem hx4)
      have hg : W.getD (q : Int).toNat 0 = W[q] := by rw [Int.toNat_natCast, List.getD_eq_getElem?_getD, List.getElem?_eq_getElem hx4]; rfl
      rw [hg] at HS
      clear hg
      generalize W[q] = v at *
      generalize wtsum W (o.take k) = s at *
      obtain ⟨hv1, hv2⟩ := hv
      obtain ⟨b2a, b2b⟩ := b2
      have hqi : ((q : Int) < (nw : Int)) = True := by simp; omega
      clear hz hx hx4
      go_wp2
      go_round
      case rel => exact ⟨k + 1, by omega, by go_num, by rw [HS.out]⟩
      case measure => simp [intOf]; omega
    · go_wp2
      go_ret
      have : k = no := by omega
      subst this
      exact ⟨ret_int (by rw [List.take_of_length_le (by rw [HL.out]; exact Nat.le_refl _)]), rfl⟩

set_option maxHeartbeats 1000000 in
theorem weigher_any (Aw : Option Addr) (nw cw : Nat) (w : World) :
    Calls Try.prog 34 #[.slice Aw nw cw] w fun e w' => (∃ bw, e = .returned (.func (.func 44) #[] #[.pointer (some ⟨bw, 0, none⟩)]) ∧ w'.cell? ⟨bw, 0, none⟩ = some (.slice Aw nw cw) ∧ w.heap.size ≤ bw ∧ bw < w'.heap.size) ∧ Below w.heap.size w w' := by
  have hmf : ∀ (fn : Fn) (first cap : Array Value) (w : World), (Instr.makeFunc fn first cap).run Try.prog w = .ok (.func fn first cap) w := fun _ _ _ _ => rfl
  go_enter Try.func34, Try.ntmps34
  go_wp2
  go_ret
  exact ⟨⟨w.heap.size, rfl, by simp [go_sem], by omega, by simp⟩, by (repeat (first | (with_reducible exact Below.refl _ _) | (with_reducible assumption) | (with_reducible refine Below.drew ?_) | ((with_reducible refine balloc ?_ _ ?_); · (first | (simp; done) | (simp; omega) | omega)) | ((with_reducible refine bset ?_ _ ?_); · (first | (simp; done) | (simp; omega) | omega)) | (with_reducible refine bdrewN _ ?_) | ((with_reducible refine bcall ?_ (by assumption) ?_); · (first | (simp; done) | (simp; omega) | omega))))⟩

set_option maxRecDepth 100000 in
set_option maxHeartbeats 2000000 in
theorem weightsOf_any (A : Option Addr) (n c : Nat) (S : List Sb) (w : World) (hr : Rd w 2 A n (pairCells S)) (hn : n ≤ 1000) :
    Calls Try.prog 35 #[.slice A n c] w fun e w' => (∃ A' c', e = .returned (.slice A' n c') ∧ w'.ownsRow w.heap.size 3 1 (.slice A' n c') n (intCells (S.map Prod.fst))) ∧ Below w.heap.size w w' := by
  have hll : S.length = n := by have := hr.1; rw [length_pairCells] at this; omega
  have HL := Lib.hid hll
  clear hll
  obtain ⟨W, hW⟩ : ∃ W, W = S.map Prod.fst := ⟨_, rfl⟩
  rw [← hW]
  have HW := Lib.hid hW
  clear hW
  obtain ⟨i0, hi, hz0, hz1, hz2⟩ := info_parts int_info
  go_enter Try.func35, Try.ntmps35
  go_wp2
  go_loopw [3, 8] (fun v i wr => ∃ (k : Nat) (A' : Option Addr) (c' : Nat), k ≤ n ∧ i = .int .i64 k ∧ v = .slice A' k c' ∧ wr.ownsRow w.heap.size 3 1 (.slice A' k c') k (intCells (W.take k)) ∧ Below w.heap.size w wr) (fun _ i _ => n - (intOf i).toNat)
  case atStart => exact ⟨0, none, 0, Nat.zero_le _, rfl, rfl, by simpa [intCells] using World.ownsRow_nil _ _ _ _, Below.refl _ _⟩
  case round =>
    obtain ⟨k, A', c', hk, rfl, rfl, hown, hB⟩ := hrel
    have sB := hB.size
    by_cases hlt : k < n
    · obtain ⟨b, o, rfl, hbl, hx, p1, p2⟩ := (hr.later hB (Nat.le_refl _)).pair hlt
      have HE : Hid (W.take (k + 1) = W.take k ++ [(S[k]).1]) := by
        simp only [Hid]
        rw [HW.out, ← List.map_take, List.take_succ_eq_append_getElem hx, List.map_append, List.map_take]; rfl
      generalize S[k] = q at *
      obtain ⟨x, y⟩ := q
      simp only at p1 p2 HE
      have hc3 : k + 1 ≤ maxLen := by simp only [maxLen]; omega
      go_wp2_with (at_builtin; refine wpList_append_own _ rfl (.tmp 12) (.tmp 15) 23 rfl w.heap.size 3 i0 (.int .i64 0) 1 8 Try.underlying23 hi hz0 hz1 hz2 rfl (by decide) _ _ _ rfl ((hown.alloc _).alloc _) ⟨wr.heap.size + 1, 0, none⟩ 1 1 [.int .i64 x] rfl rfl ?c1 (int_oneCell [x]) hc3 ?c4 ?c5 ?_)
      case c1 => simpa using new1 (wr.alloc (.cells #[.int .i64 x, .int .i64 y] 43)) 3 (.int .i64 x)
      case c4 => omega
      case c5 => simp; omega
      intro v' w2 hown' hgrow _
      have hb2 := gb_new (Nat.le_refl _) ((hB.alloc sB (.cells #[.int .i64 x, .int .i64 y] 43)).alloc (by simp; omega) (.cells #[.int .i64 x] 3)) hgrow (fun g hg => (hown.lt g hg).1)
      obtain ⟨A2, c2, rfl⟩ := own_slice hown'
      clear hgrow hown hB hc3 hbl p1 p2
      go_wp2
      go_roundw
      case rel => exact ⟨k + 1, A2, c2, by omega, by go_num, rfl, by rw [HE.out, intCells_append]; exact hown', hb2⟩
      case measure => simp [intOf]; omega
    · go_wp2
      go_ret
      have : k = n := by omega
      subst this
      rw [List.take_of_length_le (by rw [HW.out, List.length_map, HL.out]; exact Nat.le_refl _)] at hown
      exact ⟨⟨A', c', rfl, hown⟩, hB⟩

/-- what the tester of stacks of these slabs captures -/
def TstAt (w : World) (bs bg : Nat) (S : List Sb) : Prop := ∃ As ns cs Aw nw cw bw, w.cell? ⟨bs, 0, none⟩ = some (.slice As ns cs) ∧ Rd w 2 As ns (pairCells S) ∧ w.cell? ⟨bg, 0, none⟩ = some (.func (.func 44) #[] #[.pointer (some ⟨bw, 0, none⟩)]) ∧ w.cell? ⟨bw, 0, none⟩ = some (.slice Aw nw cw) ∧ Rd w 1 Aw nw (intCells (S.map Prod.fst)) ∧ bs < w.heap.size ∧ bg < w.heap.size ∧ bw < w.heap.size
theorem TstAt.later {w w' : World} {bs bg B : Nat} {S : List Sb} (h : TstAt w bs bg S) (hb : Below B w w') (hB : w.heap.size ≤ B) : TstAt w' bs bg S := by
  obtain ⟨As, ns, cs, Aw, nw, cw, bw, h1, h2, h3, h4, h5, h6, h7, h8⟩ := h
  have hs := hb.size
  exact ⟨As, ns, cs, Aw, nw, cw, bw, (hb.cell (p := ⟨bs, 0, none⟩) (by show bs < B; omega)).trans h1, h2.later hb hB, (hb.cell (p := ⟨bg, 0, none⟩) (by show bg < B; omega)).trans h3, (hb.cell (p := ⟨bw, 0, none⟩) (by show bw < B; omega)).trans h4, h5.later hb hB, by omega, by omega, by omega⟩

theorem Rd.dropW {w : World} {b o n : Nat} {l : List Int} (h : Rd w 1 (some ⟨b, o, none⟩) n (intCells l)) {i : Nat} (hi : i ≤ n) (a : Nat) (ha : i = n ∨ a = o + i) : Rd w 1 (some ⟨b, a, none⟩) (n - i) (intCells (l.drop i)) := by
  have hl := h.ilen
  refine ⟨by rw [length_intCells, List.length_drop]; omega, fun hn => ?_⟩
  obtain ⟨b', o', e, hb, hc⟩ := h.2 (by omega)
  injection e with e; injection e with e1 e2
  subst e1 e2
  have ha2 : a = o + i := by omega
  subst ha2
  refine ⟨b, o + i, rfl, hb, fun k u hu => ?_⟩
  rw [Nat.add_assoc]
  refine hc _ _ ?_
  rw [← hu]
  simp only [intCells, List.getElem?_map]
  rw [List.getElem?_drop]
theorem stk_drop {S : List Sb} {o : List Int} {k : Nat} (hk : k < o.length) : stk S (o.drop k) = (stk S (o.drop (k + 1)) && (inR S o[k] && (!hasI (o.drop (k + 1)) o[k] && decide (wsum S (o.drop (k + 1)) ≤ bOf S o[k])))) := by
  rw [List.drop_eq_getElem_cons hk]
  simp only [stk]
  congr 3
  simp [hasI]
theorem stk_no {S : List Sb} {o : List Int} (k : Nat) (h : stk S (o.drop k) = false) : stk S o = false := by
  cases e : stk S o
  · rfl
  · have := stk_suffix (S := S) (o.take k) (o.drop k) (by rw [List.take_append_drop]; exact e)
    rw [this] at h; cases h

set_option maxRecDepth 100000 in
set_option maxHeartbeats 8000000 in
theorem tester_any (Ao : Option Addr) (no co : Nat) (o : List Int) (bs bg : Nat) (S : List Sb) (w : World) (hS : slB S = true) (hro : Rd w 1 Ao no (intCells o)) (hno : no ≤ 1048576) (hco : no ≤ co) (hco2 : co ≤ 9223372036854775807) (hT : TstAt w bs bg S) :
    Calls Try.prog 40 #[.slice Ao no co, .pointer (some ⟨bs, 0, none⟩), .pointer (some ⟨bg, 0, none⟩)] w fun e w' => e = .returned (.bool (stk S o)) ∧ Below w.heap.size w w' := by
  have HLO := Lib.hid hro.ilen
  have HSB := Lib.hid hS
  have HTT := Lib.hid hT
  have hn7 := slB_len hS
  clear hS hT
  go_enter Try.func40, Try.ntmps40
  go_wp2
  go_loopw [6] (fun p wr => ∃ k : Nat, k ≤ no ∧ p = .int .i64 ((k : Int) - 1) ∧ Hid (stk S (o.drop k) = true) ∧ Below w.heap.size w wr) (fun p _ => ((intOf p) + 1).toNat)
  case atStart => exact ⟨no, Nat.le_refl _, rfl, by simp only [Hid]; rw [List.drop_of_length_le (by rw [HLO.out]; exact Nat.le_refl _)]; rfl, Below.refl _ _⟩
  case round =>
    obtain ⟨k, hk, rfl, hD, hB⟩ := hrel
    have sB := hB.size
    by_cases hk0 : k = 0
    · subst hk0
      have HF : Hid (stk S o = true) := by have := hD.out; rwa [List.drop_zero] at this
      go_wp2
      go_ret
      exact ⟨ret_bool HF.out.symm, hB⟩
    · obtain ⟨j, rfl⟩ : ∃ j, k = j + 1 := ⟨k - 1, by omega⟩
      have hT := HTT.out.later hB (Nat.le_refl _)
      obtain ⟨b, q, rfl, hbl, hx, p1⟩ := (hro.later hB (Nat.le_refl _)).num (show j < no by omega)
      have HSD := Lib.hid (stk_drop (S := S) hx)
      have hRB := hro.later hB (Nat.le_refl _)
      generalize o[j] = x at *
      clear hx
      by_cases hj : j + 1 = no
      · have hz : no - (j + 1) = 0 := by omega
        have HJ := Lib.hid hj
        clear hj
        go_wp2
        go_quiet (fail)
        have hT1 := (hT.later (bdrewN nq (Below.refl _ _)) (Nat.le_refl _) : TstAt (wr.drewN nq) bs bg S)
        have hBz : Below w.heap.size w (wr.drewN nq) := bdrewN nq hB
        have hAb : Rd (wr.drewN nq) 1 (some ⟨b, q, none⟩) (0) (intCells (o.drop (j + 1))) := by have h := (hRB.later (bdrewN nq (Below.refl _ _)) (Nat.le_refl _)).dropW (by have := HJ.out; omega) q (.inl HJ.out); rwa [hz] at h
        clear hT hB p1 hbl sB
        generalize wr.drewN nq = wz at *
        have sBz := hBz.size
        obtain ⟨As, ns, cs, Aw, nw, cw, bw, h1, h2, h3, h4, h5, h6, h7, h8⟩ := hT1
        have hns : S.length = ns := by have := h2.1; rw [length_pairCells] at this; omega
        have HNS := Lib.hid hns
        have hnw : nw = ns := by have := h5.ilen; rw [List.length_map] at this; omega
        have HNW := Lib.hid hnw
        have hns7 : ns ≤ 7 := by omega
        have hnw7 : nw ≤ 7 := by omega
        have HC := Lib.hid (fun wx (h : Rd wx 1 (some ⟨b, q, none⟩) (0) (intCells (o.drop (j + 1)))) => containsI_any (some ⟨b, q, none⟩) (0) (0) (o.drop (j + 1)) x wx h (by omega))
        have hd := Lib.hid (hD.out)
        have hsd := HSD.out
        rw [hD.out, Bool.true_and] at hsd
        have HSD2 := Lib.hid hsd
        have HDIN := Lib.hid (stk_in hD.out)
        have HDL : Hid ((o.drop (j + 1)).length = 0) := by simp only [Hid]; rw [List.length_drop, HLO.out]; first | done | omega
        clear hsd HSD hns hnw
        by_cases hx0 : x < 0
        · have HF : Hid (stk S o = false) := stk_no j (by rw [HSD2.out]; simp [inR] <;> omega)
          have hd0 : decide (x < 0) = true := by simp; exact hx0
          clear HC
          go_wp2
          go_ret
          exact ⟨ret_bool HF.out.symm, by (repeat (first | (with_reducible exact Below.refl _ _) | (with_reducible assumption) | (with_reducible refine Below.drew ?_) | ((with_reducible refine balloc ?_ _ ?_); · (first | (simp; done) | (simp; omega) | omega)) | ((with_reducible refine bset ?_ _ ?_); · (first | (simp; done) | (simp; omega) | omega)) | (with_reducible refine bdrewN _ ?_) | ((with_reducible refine bcall ?_ (by assumption) ?_); · (first | (simp; done) | (simp; omega) | omega))))⟩
        · by_cases hx1 : (ns : Int) ≤ x
          · have HF : Hid (stk S o = false) := stk_no j (by rw [HSD2.out]; have := HNS.out; simp [inR] <;> omega)
            have hd0 : decide (x < 0) = false := by simp; omega
            have hd1 : decide ((ns : Int) ≤ x) = true := by simp; exact hx1
            clear HC
            go_wp2
            go_ret
            exact ⟨ret_bool HF.out.symm, by (repeat (first | (with_reducible exact Below.refl _ _) | (with_reducible assumption) | (with_reducible refine Below.drew ?_) | ((with_reducible refine balloc ?_ _ ?_); · (first | (simp; done) | (simp; omega) | omega)) | ((with_reducible refine bset ?_ _ ?_); · (first | (simp; done) | (simp; omega) | omega)) | (with_reducible refine bdrewN _ ?_) | ((with_reducible refine bcall ?_ (by assumption) ?_); · (first | (simp; done) | (simp; omega) | omega))))⟩
          · cases hh : hasI (o.drop (j + 1)) x
            · obtain ⟨xn, rfl⟩ : ∃ xn : Nat, x = xn := ⟨x.toNat, by omega⟩
              have hxn : xn < ns := by omega
              have hd0 : decide ((xn : Int) < 0) = false := by simp
              have hd1 : decide ((ns : Int) ≤ (xn : Int)) = false := by simp; omega
              obtain ⟨b2, q2, rfl, hb2, hx2, p2a, p2b⟩ := h2.pair hxn
              have HBO : Hid (bOf S (xn : Int) = (S[xn]).2) := by
                simp only [Hid]; unfold bOf
                rw [Int.toNat_natCast, List.getD_eq_getElem?_getD, List.getElem?_eq_getElem hx2]; rfl
              have hbd := slB_at HSB.out hx2
              generalize hz2 : (S[xn]).2 = y at *
              clear p2a hz2
              have HWG := Lib.hid (weigh_any (some ⟨b, q, none⟩) (0) (0) (o.drop (j + 1)) Aw nw cw (S.map Prod.fst) bw wz.drew (hAb.later (Below.refl _ _).drew (Nat.le_refl _)) (by omega) h4 (h5.later (Below.refl _ _).drew (Nat.le_refl _))
                (fun z hz => by
                  obtain ⟨p, hp, rfl⟩ := List.mem_map.1 hz
                  obtain ⟨i, hi, rfl⟩ := List.getElem_of_mem hp
                  have := slB_at HSB.out hi; omega)
                (fun z hz => by have := HDIN.out z hz; rw [List.length_map]; exact this) (by omega))
              rw [wtsum_fst] at HWG
              have hsb := wsum_in HSB.out HDIN.out
              rw [HDL.out] at hsb
              have HWS : Hid (decide (wsum S (o.drop (j + 1)) ≤ bOf S (xn : Int)) = true → stk S (o.drop j) = true) := fun h => by
                rw [HSD2.out, h, hh]; have := HNS.out; simp [inR] <;> omega
              have HWN : Hid (decide (wsum S (o.drop (j + 1)) ≤ bOf S (xn : Int)) = false → stk S o = false) := fun h => stk_no j (by
                rw [HSD2.out, h]; simp)
              rw [HBO.out] at HWS HWN
              generalize wsum S (o.drop (j + 1)) = s at *
              obtain ⟨hsb1, hsb2⟩ := hsb
              by_cases hsy : s ≤ y
              · have HF := Lib.hid (HWS.out (decide_eq_true hsy))
                have hd2 : decide (y < s) = false := by simp; exact hsy
                clear hbd h5 h2
                go_wp2_with (go_at_call 41; refine (HC.out _ hAb).mono ?_; rintro e wx ⟨rfl, rfl⟩; rw [hh])
                refine wp_region_held_drew (S := (fun w' => w'.cell? ⟨bg, 0, none⟩ = some (.func (.func 44) #[] #[.pointer (some ⟨bw, 0, none⟩)]) ∧ w'.cell? ⟨bs, 0, none⟩ = some (.slice (some ⟨b2, q2, none⟩) ns cs) ∧ w'.cell? ⟨b2, q2 + xn * 2 + 1, none⟩ = some (.int .i64 y))) (by kernel_rfl) ?_ (fun hHeld => ?_)
                · ((try dsimp only); (repeat' apply And.intro); all_goals ((repeat (first | (with_reducible refine cell_drew ?_) | (with_reducible refine cell_drewN _ ?_) | ((with_reducible refine cell_alloc ?_ ?_); · first | omega | (simp; done) | (simp; omega) | assumption) | ((with_reducible refine cell_set ?_ ?_); · first | (intro e; injection e; omega) | (intro e; simp at e; done) | (intro e; simp at e; omega)))); first | assumption | (simp; done)))
                refine reg_on (i := 0) (d := 40) (v := ?rv1) rfl rfl (by kernel_rfl) (by kernel_rfl) (by kernel_rfl) (fun _ _ _ h => h) (by rfl) ?ry1 (by assumption) ?rr1
                case ry1 => (intro wz hSw; (try dsimp only at hSw); go_simp; try with_reducible rfl)
                (try simp only [Act.put, List.setIfInBounds_toArray, List.set_cons_zero, List.set_cons_succ])
                refine reg_on (i := 1) (d := 41) (v := ?rv2) rfl rfl (by kernel_rfl) (by kernel_rfl) (by kernel_rfl) (fun _ _ _ h => h) (by rfl) ?ry2 (by assumption) ?rr2
                case ry2 => (intro wz hSw; (try dsimp only at hSw); go_simp; try with_reducible rfl)
                (try simp only [Act.put, List.setIfInBounds_toArray, List.set_cons_zero, List.set_cons_succ])
                refine reg_on (i := 3) (d := 43) (v := ?rv3) rfl rfl (by kernel_rfl) (by kernel_rfl) (by kernel_rfl) (fun _ _ _ h => h) (by rfl) ?ry3 (by assumption) ?rr3
                case ry3 => (intro wz hSw; (try dsimp only at hSw); go_simp; try with_reducible rfl)
                (try simp only [Act.put, List.setIfInBounds_toArray, List.set_cons_zero, List.set_cons_succ])
                refine reg_on (i := 4) (d := 44) (v := ?rv4) rfl rfl (by kernel_rfl) (by kernel_rfl) (by kernel_rfl) (fun _ _ _ h => h) (by rfl) ?ry4 (by assumption) ?rr4
                case ry4 => (intro wz hSw; (try dsimp only at hSw); go_simp; try with_reducible rfl)
                (try simp only [Act.put, List.setIfInBounds_toArray, List.set_cons_zero, List.set_cons_succ])
                refine reg_on (i := 5) (d := 45) (v := ?rv5) rfl rfl (by kernel_rfl) (by kernel_rfl) (by kernel_rfl) (fun _ _ _ h => h) (by rfl) ?ry5 (by assumption) ?rr5
                case ry5 => (intro wz hSw; (try dsimp only at hSw); go_simp; try with_reducible rfl)
                (try simp only [Act.put, List.setIfInBounds_toArray, List.set_cons_zero, List.set_cons_succ])
                refine reg_on (i := 6) (d := 46) (v := ?rv6) rfl rfl (by kernel_rfl) (by kernel_rfl) (by kernel_rfl) (fun _ _ _ h => h) (by rfl) ?ry6 (by assumption) ?rr6
                case ry6 => (intro wz hSw; (try dsimp only at hSw); go_simp; try with_reducible rfl)
                (try simp only [Act.put, List.setIfInBounds_toArray, List.set_cons_zero, List.set_cons_succ])
                refine reg_on (i := 7) (d := 47) (v := ?rv7) rfl rfl (by kernel_rfl) (by kernel_rfl) (by kernel_rfl) (fun _ _ _ h => h) (by rfl) ?ry7 (by assumption) ?rr7
                case ry7 => (intro wz hSw; (try dsimp only at hSw); go_simp; try with_reducible rfl)
                (try simp only [Act.put, List.setIfInBounds_toArray, List.set_cons_zero, List.set_cons_succ])
                refine wpAnyH_ready (rs := [2]) (by kernel_rfl) (by simp) ?_
                refine AllReadyH.cons rfl (fun K hK => ?_) AllReadyH.nil
                go_simp
                go_at_call 44; refine HWG.out.mono ?_; rintro e wx ⟨rfl, rfl⟩
                refine hK.out _ _ ?_ (fun hHeld => ?_)
                · ((try dsimp only); (repeat' apply And.intro); all_goals ((repeat (first | (with_reducible refine cell_drew ?_) | (with_reducible refine cell_drewN _ ?_) | ((with_reducible refine cell_alloc ?_ ?_); · first | omega | (simp; done) | (simp; omega) | assumption) | ((with_reducible refine cell_set ?_ ?_); · first | (intro e; injection e; omega) | (intro e; simp at e; done) | (intro e; simp at e; omega)))); first | assumption | (simp; done)))
                clear hK K
                (try simp only [Act.put, List.setIfInBounds_toArray, List.set_cons_zero, List.set_cons_succ])
                refine reg_on (i := 8) (d := 48) (v := ?rv9) rfl rfl (by kernel_rfl) (by kernel_rfl) (by kernel_rfl) (fun _ _ _ h => h) (by rfl) ?ry9 (by assumption) ?rr9
                case ry9 => (intro wz hSw; (try dsimp only at hSw); go_simp; try with_reducible rfl)
                (try simp only [Act.put, List.setIfInBounds_toArray, List.set_cons_zero, List.set_cons_succ])
                refine wpAnyH_done (by kernel_rfl) ?_ _
                go_wp2
                go_roundw
                case rel => exact ⟨j, by omega, by (first | rfl | go_num), HF, by (repeat (first | (with_reducible exact Below.refl _ _) | (with_reducible assumption) | (with_reducible refine Below.drew ?_) | ((with_reducible refine balloc ?_ _ ?_); · (first | (simp; done) | (simp; omega) | omega)) | ((with_reducible refine bset ?_ _ ?_); · (first | (simp; done) | (simp; omega) | omega)) | (with_reducible refine bdrewN _ ?_) | ((with_reducible refine bcall ?_ (by assumption) ?_); · (first | (simp; done) | (simp; omega) | omega))))⟩
                case measure => first | (simp [intOf]; done) | (simp [intOf]; omega)
              · have HF := Lib.hid (HWN.out (decide_eq_false hsy))
                have hd2 : decide (y < s) = true := by simp; omega
                clear hbd h5 h2
                go_wp2_with (go_at_call 41; refine (HC.out _ hAb).mono ?_; rintro e wx ⟨rfl, rfl⟩; rw [hh])
                refine wp_region_held_drew (S := (fun w' => w'.cell? ⟨bg, 0, none⟩ = some (.func (.func 44) #[] #[.pointer (some ⟨bw, 0, none⟩)]) ∧ w'.cell? ⟨bs, 0, none⟩ = some (.slice (some ⟨b2, q2, none⟩) ns cs) ∧ w'.cell? ⟨b2, q2 + xn * 2 + 1, none⟩ = some (.int .i64 y))) (by kernel_rfl) ?_ (fun hHeld => ?_)
                · ((try dsimp only); (repeat' apply And.intro); all_goals ((repeat (first | (with_reducible refine cell_drew ?_) | (with_reducible refine cell_drewN _ ?_) | ((with_reducible refine cell_alloc ?_ ?_); · first | omega | (simp; done) | (simp; omega) | assumption) | ((with_reducible refine cell_set ?_ ?_); · first | (intro e; injection e; omega) | (intro e; simp at e; done) | (intro e; simp at e; omega)))); first | assumption | (simp; done)))
                refine reg_on (i := 0) (d := 40) (v := ?rv10) rfl rfl (by kernel_rfl) (by kernel_rfl) (by kernel_rfl) (fun _ _ _ h => h) (by rfl) ?ry10 (by assumption) ?rr10
                case ry10 => (intro wz hSw; (try dsimp only at hSw); go_simp; try with_reducible rfl)
                (try simp only [Act.put, List.setIfInBounds_toArray, List.set_cons_zero, List.set_cons_succ])
                refine reg_on (i := 1) (d := 41) (v := ?rv11) rfl rfl (by kernel_rfl) (by kernel_rfl) (by kernel_rfl) (fun _ _ _ h => h) (by rfl) ?ry11 (by assumption) ?rr11
                case ry11 => (intro wz hSw; (try dsimp only at hSw); go_simp; try with_reducible rfl)
                (try simp only [Act.put, List.setIfInBounds_toArray, List.set_cons_zero, List.set_cons_succ])
                refine reg_on (i := 3) (d := 43) (v := ?rv12) rfl rfl (by kernel_rfl) (by kernel_rfl) (by kernel_rfl) (fun _ _ _ h => h) (by rfl) ?ry12 (by assumption) ?rr12
                case ry12 => (intro wz hSw; (try dsimp only at hSw); go_simp; try with_reducible rfl)
                (try simp only [Act.put, List.setIfInBounds_toArray, List.set_cons_zero, List.set_cons_succ])
                refine reg_on (i := 4) (d := 44) (v := ?rv13) rfl rfl (by kernel_rfl) (by kernel_rfl) (by kernel_rfl) (fun _ _ _ h => h) (by rfl) ?ry13 (by assumption) ?rr13
                case ry13 => (intro wz hSw; (try dsimp only at hSw); go_simp; try with_reducible rfl)
                (try simp only [Act.put, List.setIfInBounds_toArray, List.set_cons_zero, List.set_cons_succ])
                refine reg_on (i := 5) (d := 45) (v := ?rv14) rfl rfl (by kernel_rfl) (by kernel_rfl) (by kernel_rfl) (fun _ _ _ h => h) (by rfl) ?ry14 (by assumption) ?rr14
                case ry14 => (intro wz hSw; (try dsimp only at hSw); go_simp; try with_reducible rfl)
                (try simp only [Act.put, List.setIfInBounds_toArray, List.set_cons_zero, List.set_cons_succ])
                refine reg_on (i := 6) (d := 46) (v := ?rv15) rfl rfl (by kernel_rfl) (by kernel_rfl) (by kernel_rfl) (fun _ _ _ h => h) (by rfl) ?ry15 (by assumption) ?rr15
                case ry15 => (intro wz hSw; (try dsimp only at hSw); go_simp; try with_reducible rfl)
                (try simp only [Act.put, List.setIfInBounds_toArray, List.set_cons_zero, List.set_cons_succ])
                refine reg_on (i := 7) (d := 47) (v := ?rv16) rfl rfl (by kernel_rfl) (by kernel_rfl) (by kernel_rfl) (fun _ _ _ h => h) (by rfl) ?ry16 (by assumption) ?rr16
                case ry16 => (intro wz hSw; (try dsimp only at hSw); go_simp; try with_reducible rfl)
                (try simp only [Act.put, List.setIfInBounds_toArray, List.set_cons_zero, List.set_cons_succ])
                refine wpAnyH_ready (rs := [2]) (by kernel_rfl) (by simp) ?_
                refine AllReadyH.cons rfl (fun K hK => ?_) AllReadyH.nil
                go_simp
                go_at_call 44; refine HWG.out.mono ?_; rintro e wx ⟨rfl, rfl⟩
                refine hK.out _ _ ?_ (fun hHeld => ?_)
                · ((try dsimp only); (repeat' apply And.intro); all_goals ((repeat (first | (with_reducible refine cell_drew ?_) | (with_reducible refine cell_drewN _ ?_) | ((with_reducible refine cell_alloc ?_ ?_); · first | omega | (simp; done) | (simp; omega) | assumption) | ((with_reducible refine cell_set ?_ ?_); · first | (intro e; injection e; omega) | (intro e; simp at e; done) | (intro e; simp at e; omega)))); first | assumption | (simp; done)))
                clear hK K
                (try simp only [Act.put, List.setIfInBounds_toArray, List.set_cons_zero, List.set_cons_succ])
                refine reg_on (i := 8) (d := 48) (v := ?rv18) rfl rfl (by kernel_rfl) (by kernel_rfl) (by kernel_rfl) (fun _ _ _ h => h) (by rfl) ?ry18 (by assumption) ?rr18
                case ry18 => (intro wz hSw; (try dsimp only at hSw); go_simp; try with_reducible rfl)
                (try simp only [Act.put, List.setIfInBounds_toArray, List.set_cons_zero, List.set_cons_succ])
                refine wpAnyH_done (by kernel_rfl) ?_ _
                go_wp2
                go_ret
                exact ⟨ret_bool HF.out.symm, by (repeat (first | (with_reducible exact Below.refl _ _) | (with_reducible assumption) | (with_reducible refine Below.drew ?_) | ((with_reducible refine balloc ?_ _ ?_); · (first | (simp; done) | (simp; omega) | omega)) | ((with_reducible refine bset ?_ _ ?_); · (first | (simp; done) | (simp; omega) | omega)) | (with_reducible refine bdrewN _ ?_) | ((with_reducible refine bcall ?_ (by assumption) ?_); · (first | (simp; done) | (simp; omega) | omega))))⟩
            · have HF : Hid (stk S o = false) := stk_no j (by rw [HSD2.out, hh]; simp)
              have hd0 : decide (x < 0) = false := by simp; omega
              have hd1 : decide ((ns : Int) ≤ x) = false := by simp; omega
              go_wp2_with (go_at_call 41; refine (HC.out _ hAb).mono ?_; rintro e wx ⟨rfl, rfl⟩; rw [hh])
              go_ret
              exact ⟨ret_bool HF.out.symm, by (repeat (first | (with_reducible exact Below.refl _ _) | (with_reducible assumption) | (with_reducible refine Below.drew ?_) | ((with_reducible refine balloc ?_ _ ?_); · (first | (simp; done) | (simp; omega) | omega)) | ((with_reducible refine bset ?_ _ ?_); · (first | (simp; done) | (simp; omega) | omega)) | (with_reducible refine bdrewN _ ?_) | ((with_reducible refine bcall ?_ (by assumption) ?_); · (first | (simp; done) | (simp; omega) | omega))))⟩

      · have hnj : ¬ (no - (j + 1) = 0) := by omega
        go_wp2
        go_quiet (fail)
        have hT1 := (hT.later (bdrewN nq (Below.refl _ _)) (Nat.le_refl _) : TstAt (wr.drewN nq) bs bg S)
        have hBz : Below w.heap.size w (wr.drewN nq) := bdrewN nq hB
        have hAb : Rd (wr.drewN nq) 1 (some ⟨b, q + (j + 1), none⟩) (no - (j + 1)) (intCells (o.drop (j + 1))) := (hRB.later (bdrewN nq (Below.refl _ _)) (Nat.le_refl _)).dropW (by omega) (q + (j + 1)) (.inr rfl)
        clear hT hB p1 hbl sB
        generalize wr.drewN nq = wz at *
        have sBz := hBz.size
        obtain ⟨As, ns, cs, Aw, nw, cw, bw, h1, h2, h3, h4, h5, h6, h7, h8⟩ := hT1
        have hns : S.length = ns := by have := h2.1; rw [length_pairCells] at this; omega
        have HNS := Lib.hid hns
        have hnw : nw = ns := by have := h5.ilen; rw [List.length_map] at this; omega
        have HNW := Lib.hid hnw
        have hns7 : ns ≤ 7 := by omega
        have hnw7 : nw ≤ 7 := by omega
        have HC := Lib.hid (fun wx (h : Rd wx 1 (some ⟨b, q + (j + 1), none⟩) (no - (j + 1)) (intCells (o.drop (j + 1)))) => containsI_any (some ⟨b, q + (j + 1), none⟩) (no - (j + 1)) (no - (j + 1)) (o.drop (j + 1)) x wx h (by omega))
        have hd := Lib.hid (hD.out)
        have hsd := HSD.out
        rw [hD.out, Bool.true_and] at hsd
        have HSD2 := Lib.hid hsd
        have HDIN := Lib.hid (stk_in hD.out)
        have HDL : Hid ((o.drop (j + 1)).length = no - (j + 1)) := by simp only [Hid]; rw [List.length_drop, HLO.out]; first | done | omega
        clear hsd HSD hns hnw
        by_cases hx0 : x < 0
        · have HF : Hid (stk S o = false) := stk_no j (by rw [HSD2.out]; simp [inR] <;> omega)
          have hd0 : decide (x < 0) = true := by simp; exact hx0
          clear HC
          go_wp2
          go_ret
          exact ⟨ret_bool HF.out.symm, by (repeat (first | (with_reducible exact Below.refl _ _) | (with_reducible assumption) | (with_reducible refine Below.drew ?_) | ((with_reducible refine balloc ?_ _ ?_); · (first | (simp; done) | (simp; omega) | omega)) | ((with_reducible refine bset ?_ _ ?_); · (first | (simp; done) | (simp; omega) | omega)) | (with_reducible refine bdrewN _ ?_) | ((with_reducible refine bcall ?_ (by assumption) ?_); · (first | (simp; done) | (simp; omega) | omega))))⟩
        · by_cases hx1 : (ns : Int) ≤ x
          · have HF : Hid (stk S o = false) := stk_no j (by rw [HSD2.out]; have := HNS.out; simp [inR] <;> omega)
            have hd0 : decide (x < 0) = false := by simp; omega
            have hd1 : decide ((ns : Int) ≤ x) = true := by simp; exact hx1
            clear HC
            go_wp2
            go_ret
            exact ⟨ret_bool HF.out.symm, by (repeat (first | (with_reducible exact Below.refl _ _) | (with_reducible assumption) | (with_reducible refine Below.drew ?_) | ((with_reducible refine balloc ?_ _ ?_); · (first | (simp; done) | (simp; omega) | omega)) | ((with_reducible refine bset ?_ _ ?_); · (first | (simp; done) | (simp; omega) | omega)) | (with_reducible refine bdrewN _ ?_) | ((with_reducible refine bcall ?_ (by assumption) ?_); · (first | (simp; done) | (simp; omega) | omega))))⟩
          · cases hh : hasI (o.drop (j + 1)) x
            · obtain ⟨xn, rfl⟩ : ∃ xn : Nat, x = xn := ⟨x.toNat, by omega⟩
              have hxn : xn < ns := by omega
              have hd0 : decide ((xn : Int) < 0) = false := by simp
              have hd1 : decide ((ns : Int) ≤ (xn : Int)) = false := by simp; omega
              obtain ⟨b2, q2, rfl, hb2, hx2, p2a, p2b⟩ := h2.pair hxn
              have HBO : Hid (bOf S (xn : Int) = (S[xn]).2) := by
                simp only [Hid]; unfold bOf
                rw [Int.toNat_natCast, List.getD_eq_getElem?_getD, List.getElem?_eq_getElem hx2]; rfl
              have hbd := slB_at HSB.out hx2
              generalize hz2 : (S[xn]).2 = y at *
              clear p2a hz2
              have HWG := Lib.hid (weigh_any (some ⟨b, q + (j + 1), none⟩) (no - (j + 1)) (no - (j + 1)) (o.drop (j + 1)) Aw nw cw (S.map Prod.fst) bw wz.drew (hAb.later (Below.refl _ _).drew (Nat.le_refl _)) (by omega) h4 (h5.later (Below.refl _ _).drew (Nat.le_refl _))
                (fun z hz => by
                  obtain ⟨p, hp, rfl⟩ := List.mem_map.1 hz
                  obtain ⟨i, hi, rfl⟩ := List.getElem_of_mem hp
                  have := slB_at HSB.out hi; omega)
                (fun z hz => by have := HDIN.out z hz; rw [List.length_map]; exact this) (by omega))
              rw [wtsum_fst] at HWG
              have hsb := wsum_in HSB.out HDIN.out
              rw [HDL.out] at hsb
              have HWS : Hid (decide (wsum S (o.drop (j + 1)) ≤ bOf S (xn : Int)) = true → stk S (o.drop j) = true) := fun h => by
                rw [HSD2.out, h, hh]; have := HNS.out; simp [inR] <;> omega
              have HWN : Hid (decide (wsum S (o.drop (j + 1)) ≤ bOf S (xn : Int)) = false → stk S o = false) := fun h => stk_no j (by
                rw [HSD2.out, h]; simp)
              rw [HBO.out] at HWS HWN
              generalize wsum S (o.drop (j + 1)) = s at *
              obtain ⟨hsb1, hsb2⟩ := hsb
              by_cases hsy : s ≤ y
              · have HF := Lib.hid (HWS.out (decide_eq_true hsy))
                have hd2 : decide (y < s) = false := by simp; exact hsy
                clear hbd h5 h2
                go_wp2_with (go_at_call 41; refine (HC.out _ hAb).mono ?_; rintro e wx ⟨rfl, rfl⟩; rw [hh])
                refine wp_region_held_drew (S := (fun w' => w'.cell? ⟨bg, 0, none⟩ = some (.func (.func 44) #[] #[.pointer (some ⟨bw, 0, none⟩)]) ∧ w'.cell? ⟨bs, 0, none⟩ = some (.slice (some ⟨b2, q2, none⟩) ns cs) ∧ w'.cell? ⟨b2, q2 + xn * 2 + 1, none⟩ = some (.int .i64 y))) (by kernel_rfl) ?_ (fun hHeld => ?_)
                · ((try dsimp only); (repeat' apply And.intro); all_goals ((repeat (first | (with_reducible refine cell_drew ?_) | (with_reducible refine cell_drewN _ ?_) | ((with_reducible refine cell_alloc ?_ ?_); · first | omega | (simp; done) | (simp; omega) | assumption) | ((with_reducible refine cell_set ?_ ?_); · first | (intro e; injection e; omega) | (intro e; simp at e; done) | (intro e; simp at e; omega)))); first | assumption | (simp; done)))
                refine reg_on (i := 0) (d := 40) (v := ?rv19) rfl rfl (by kernel_rfl) (by kernel_rfl) (by kernel_rfl) (fun _ _ _ h => h) (by rfl) ?ry19 (by assumption) ?rr19
                case ry19 => (intro wz hSw; (try dsimp only at hSw); go_simp; try with_reducible rfl)
                (try simp only [Act.put, List.setIfInBounds_toArray, List.set_cons_zero, List.set_cons_succ])
                refine reg_on (i := 1) (d := 41) (v := ?rv20) rfl rfl (by kernel_rfl) (by kernel_rfl) (by kernel_rfl) (fun _ _ _ h => h) (by rfl) ?ry20 (by assumption) ?rr20
                case ry20 => (intro wz hSw; (try dsimp only at hSw); go_simp; try with_reducible rfl)
                (try simp only [Act.put, List.setIfInBounds_toArray, List.set_cons_zero, List.set_cons_succ])
                refine reg_on (i := 3) (d := 43) (v := ?rv21) rfl rfl (by kernel_rfl) (by kernel_rfl) (by kernel_rfl) (fun _ _ _ h => h) (by rfl) ?ry21 (by assumption) ?rr21
                case ry21 => (intro wz hSw; (try dsimp only at hSw); go_simp; try with_reducible rfl)
                (try simp only [Act.put, List.setIfInBounds_toArray, List.set_cons_zero, List.set_cons_succ])
                refine reg_on (i := 4) (d := 44) (v := ?rv22) rfl rfl (by kernel_rfl) (by kernel_rfl) (by kernel_rfl) (fun _ _ _ h => h) (by rfl) ?ry22 (by assumption) ?rr22
                case ry22 => (intro wz hSw; (try dsimp only at hSw); go_simp; try with_reducible rfl)
                (try simp only [Act.put, List.setIfInBounds_toArray, List.set_cons_zero, List.set_cons_succ])
                refine reg_on (i := 5) (d := 45) (v := ?rv23) rfl rfl (by kernel_rfl) (by kernel_rfl) (by kernel_rfl) (fun _ _ _ h => h) (by rfl) ?ry23 (by assumption) ?rr23
                case ry23 => (intro wz hSw; (try dsimp only at hSw); go_simp; try with_reducible rfl)
                (try simp only [Act.put, List.setIfInBounds_toArray, List.set_cons_zero, List.set_cons_succ])
                refine reg_on (i := 6) (d := 46) (v := ?rv24) rfl rfl (by kernel_rfl) (by kernel_rfl) (by kernel_rfl) (fun _ _ _ h => h) (by rfl) ?ry24 (by assumption) ?rr24
                case ry24 => (intro wz hSw; (try dsimp only at hSw); go_simp; try with_reducible rfl)
                (try simp only [Act.put, List.setIfInBounds_toArray, List.set_cons_zero, List.set_cons_succ])
                refine reg_on (i := 7) (d := 47) (v := ?rv25) rfl rfl (by kernel_rfl) (by kernel_rfl) (by kernel_rfl) (fun _ _ _ h => h) (by rfl) ?ry25 (by assumption) ?rr25
                case ry25 => (intro wz hSw; (try dsimp only at hSw); go_simp; try with_reducible rfl)
                (try simp only [Act.put, List.setIfInBounds_toArray, List.set_cons_zero, List.set_cons_succ])
                refine wpAnyH_ready (rs := [2]) (by kernel_rfl) (by simp) ?_
                refine AllReadyH.cons rfl (fun K hK => ?_) AllReadyH.nil
                go_simp
                go_at_call 44; refine HWG.out.mono ?_; rintro e wx ⟨rfl, rfl⟩
                refine hK.out _ _ ?_ (fun hHeld => ?_)
                · ((try dsimp only); (repeat' apply And.intro); all_goals ((repeat (first | (with_reducible refine cell_drew ?_) | (with_reducible refine cell_drewN _ ?_) | ((with_reducible refine cell_alloc ?_ ?_); · first | omega | (simp; done) | (simp; omega) | assumption) | ((with_reducible refine cell_set ?_ ?_); · first | (intro e; injection e; omega) | (intro e; simp at e; done) | (intro e; simp at e; omega)))); first | assumption | (simp; done)))
                clear hK K
                (try simp only [Act.put, List.setIfInBounds_toArray, List.set_cons_zero, List.set_cons_succ])
                refine reg_on (i := 8) (d := 48) (v := ?rv27) rfl rfl (by kernel_rfl) (by kernel_rfl) (by kernel_rfl) (fun _ _ _ h => h) (by rfl) ?ry27 (by assumption) ?rr27
                case ry27 => (intro wz hSw; (try dsimp only at hSw); go_simp; try with_reducible rfl)
                (try simp only [Act.put, List.setIfInBounds_toArray, List.set_cons_zero, List.set_cons_succ])
                refine wpAnyH_done (by kernel_rfl) ?_ _
                go_wp2
                go_roundw
                case rel => exact ⟨j, by omega, by (first | rfl | go_num), HF, by (repeat (first | (with_reducible exact Below.refl _ _) | (with_reducible assumption) | (with_reducible refine Below.drew ?_) | ((with_reducible refine balloc ?_ _ ?_); · (first | (simp; done) | (simp; omega) | omega)) | ((with_reducible refine bset ?_ _ ?_); · (first | (simp; done) | (simp; omega) | omega)) | (with_reducible refine bdrewN _ ?_) | ((with_reducible refine bcall ?_ (by assumption) ?_); · (first | (simp; done) | (simp; omega) | omega))))⟩
                case measure => first | (simp [intOf]; done) | (simp [intOf]; omega)
              · have HF := Lib.hid (HWN.out (decide_eq_false hsy))
                have hd2 : decide (y < s) = true := by simp; omega
                clear hbd h5 h2
                go_wp2_with (go_at_call 41; refine (HC.out _ hAb).mono ?_; rintro e wx ⟨rfl, rfl⟩; rw [hh])
                refine wp_region_held_drew (S := (fun w' => w'.cell? ⟨bg, 0, none⟩ = some (.func (.func 44) #[] #[.pointer (some ⟨bw, 0, none⟩)]) ∧ w'.cell? ⟨bs, 0, none⟩ = some (.slice (some ⟨b2, q2, none⟩) ns cs) ∧ w'.cell? ⟨b2, q2 + xn * 2 + 1, none⟩ = some (.int .i64 y))) (by kernel_rfl) ?_ (fun hHeld => ?_)
                · ((try dsimp only); (repeat' apply And.intro); all_goals ((repeat (first | (with_reducible refine cell_drew ?_) | (with_reducible refine cell_drewN _ ?_) | ((with_reducible refine cell_alloc ?_ ?_); · first | omega | (simp; done) | (simp; omega) | assumption) | ((with_reducible refine cell_set ?_ ?_); · first | (intro e; injection e; omega) | (intro e; simp at e; done) | (intro e; simp at e; omega)))); first | assumption | (simp; done)))
                refine reg_on (i := 0) (d := 40) (v := ?rv28) rfl rfl (by kernel_rfl) (by kernel_rfl) (by kernel_rfl) (fun _ _ _ h => h) (by rfl) ?ry28 (by assumption) ?rr28
                case ry28 => (intro wz hSw; (try dsimp only at hSw); go_simp; try with_reducible rfl)
                (try simp only [Act.put, List.setIfInBounds_toArray, List.set_cons_zero, List.set_cons_succ])
                refine reg_on (i := 1) (d := 41) (v := ?rv29) rfl rfl (by kernel_rfl) (by kernel_rfl) (by kernel_rfl) (fun _ _ _ h => h) (by rfl) ?ry29 (by assumption) ?rr29
                case ry29 => (intro wz hSw; (try dsimp only at hSw); go_simp; try with_reducible rfl)
                (try simp only [Act.put, List.setIfInBounds_toArray, List.set_cons_zero, List.set_cons_succ])
                refine reg_on (i := 3) (d := 43) (v := ?rv30) rfl rfl (by kernel_rfl) (by kernel_rfl) (by kernel_rfl) (fun _ _ _ h => h) (by rfl) ?ry30 (by assumption) ?rr30
                case ry30 => (intro wz hSw; (try dsimp only at hSw); go_simp; try with_reducible rfl)
                (try simp only [Act.put, List.setIfInBounds_toArray, List.set_cons_zero, List.set_cons_succ])
                refine reg_on (i := 4) (d := 44) (v := ?rv31) rfl rfl (by kernel_rfl) (by kernel_rfl) (by kernel_rfl) (fun _ _ _ h => h) (by rfl) ?ry31 (by assumption) ?rr31
                case ry31 => (intro wz hSw; (try dsimp only at hSw); go_simp; try with_reducible rfl)
                (try simp only [Act.put, List.setIfInBounds_toArray, List.set_cons_zero, List.set_cons_succ])
                refine reg_on (i := 5) (d := 45) (v := ?rv32) rfl rfl (by kernel_rfl) (by kernel_rfl) (by kernel_rfl) (fun _ _ _ h => h) (by rfl) ?ry32 (by assumption) ?rr32
                case ry32 => (intro wz hSw; (try dsimp only at hSw); go_simp; try with_reducible rfl)
                (try simp only [Act.put, List.setIfInBounds_toArray, List.set_cons_zero, List.set_cons_succ])
                refine reg_on (i := 6) (d := 46) (v := ?rv33) rfl rfl (by kernel_rfl) (by kernel_rfl) (by kernel_rfl) (fun _ _ _ h => h) (by rfl) ?ry33 (by assumption) ?rr33
                case ry33 => (intro wz hSw; (try dsimp only at hSw); go_simp; try with_reducible rfl)
                (try simp only [Act.put, List.setIfInBounds_toArray, List.set_cons_zero, List.set_cons_succ])
                refine reg_on (i := 7) (d := 47) (v := ?rv34) rfl rfl (by kernel_rfl) (by kernel_rfl) (by kernel_rfl) (fun _ _ _ h => h) (by rfl) ?ry34 (by assumption) ?rr34
                case ry34 => (intro wz hSw; (try dsimp only at hSw); go_simp; try with_reducible rfl)
                (try simp only [Act.put, List.setIfInBounds_toArray, List.set_cons_zero, List.set_cons_succ])
                refine wpAnyH_ready (rs := [2]) (by kernel_rfl) (by simp) ?_
                refine AllReadyH.cons rfl (fun K hK => ?_) AllReadyH.nil
                go_simp
                go_at_call 44; refine HWG.out.mono ?_; rintro e wx ⟨rfl, rfl⟩
                refine hK.out _ _ ?_ (fun hHeld => ?_)
                · ((try dsimp only); (repeat' apply And.intro); all_goals ((repeat (first | (with_reducible refine cell_drew ?_) | (with_reducible refine cell_drewN _ ?_) | ((with_reducible refine cell_alloc ?_ ?_); · first | omega | (simp; done) | (simp; omega) | assumption) | ((with_reducible refine cell_set ?_ ?_); · first | (intro e; injection e; omega) | (intro e; simp at e; done) | (intro e; simp at e; omega)))); first | assumption | (simp; done)))
                clear hK K
                (try simp only [Act.put, List.setIfInBounds_toArray, List.set_cons_zero, List.set_cons_succ])
                refine reg_on (i := 8) (d := 48) (v := ?rv36) rfl rfl (by kernel_rfl) (by kernel_rfl) (by kernel_rfl) (fun _ _ _ h => h) (by rfl) ?ry36 (by assumption) ?rr36
                case ry36 => (intro wz hSw; (try dsimp only at hSw); go_simp; try with_reducible rfl)
                (try simp only [Act.put, List.setIfInBounds_toArray, List.set_cons_zero, List.set_cons_succ])
                refine wpAnyH_done (by kernel_rfl) ?_ _
                go_wp2
                go_ret
                exact ⟨ret_bool HF.out.symm, by (repeat (first | (with_reducible exact Below.refl _ _) | (with_reducible assumption) | (with_reducible refine Below.drew ?_) | ((with_reducible refine balloc ?_ _ ?_); · (first | (simp; done) | (simp; omega) | omega)) | ((with_reducible refine bset ?_ _ ?_); · (first | (simp; done) | (simp; omega) | omega)) | (with_reducible refine bdrewN _ ?_) | ((with_reducible refine bcall ?_ (by assumption) ?_); · (first | (simp; done) | (simp; omega) | omega))))⟩
            · have HF : Hid (stk S o = false) := stk_no j (by rw [HSD2.out, hh]; simp)
              have hd0 : decide (x < 0) = false := by simp; omega
              have hd1 : decide ((ns : Int) ≤ x) = false := by simp; omega
              go_wp2_with (go_at_call 41; refine (HC.out _ hAb).mono ?_; rintro e wx ⟨rfl, rfl⟩; rw [hh])
              go_ret
              exact ⟨ret_bool HF.out.symm, by (repeat (first | (with_reducible exact Below.refl _ _) | (with_reducible assumption) | (with_reducible refine Below.drew ?_) | ((with_reducible refine balloc ?_ _ ?_); · (first | (simp; done) | (simp; omega) | omega)) | ((with_reducible refine bset ?_ _ ?_); · (first | (simp; done) | (simp; omega) | omega)) | (with_reducible refine bdrewN _ ?_) | ((with_reducible refine bcall ?_ (by assumption) ?_); · (first | (simp; done) | (simp; omega) | omega))))⟩


end Go.Proofs.Ytkijcpbjjbhnhab
