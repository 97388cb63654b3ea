/-
  Contracts: what tests stacks in the program: slices.Contains at int, the model's l1Has, weightsOf, weigher and its closure, stackTester and its closure. Conditions: none.
-/
import Derived.Test.YtkijcpbjjbhnhaaStkA
import Derived.Test.YtkijcpbjjbhnhaaReg
import Derived.Test.YtkijcpbjjbhnhaaRegR
import Derived.OwnWalk
import Derived.Deep.AppendLies
namespace Go.Proofs.Ytkijcpbjjbhnhaa
open Go.RowKit
set_option linter.unusedVariables false
set_option linter.unusedSimpArgs false

/-- a number is in a list -/
def hasI (l : List Int) (x : Int) : Bool := decide (x ∈ l)
theorem hasI_iff {l : List Int} {x : Int} : hasI l x = true ↔ x ∈ l := by simp [hasI]
theorem hasI_not {l : List Int} {x : Int} : hasI l x = false ↔ ¬ x ∈ l := by simp [hasI]
theorem contains_take {l : List Int} {x : Int} {k : Nat} (hk : k < l.length) (h : hasI (l.take k) x = false) (hx : ¬ l[k] = x) : hasI (l.take (k + 1)) x = false := by
  rw [hasI_not] at h ⊢
  rw [List.take_succ_eq_append_getElem hk, List.mem_append]
  rintro (h1 | h1)
  · exact h h1
  · exact hx (List.mem_singleton.1 h1).symm
theorem contains_at {l : List Int} {x : Int} {k : Nat} (hk : k < l.length) (hx : l[k] = x) : hasI l x = true := by
  subst hx; exact hasI_iff.2 (List.getElem_mem hk)


set_option maxRecDepth 100000 in
set_option maxHeartbeats 1000000 in
theorem l1HasI_any (A : Option Addr) (n c : Nat) (l : List Int) (x : Int) (w : World) (hr : Rd w 1 A n (intCells l)) (hn : n ≤ 4000000000) :
    Calls Try.prog 75 #[.slice A n c, .int .i64 x] w fun e w' => e = .returned (.bool (hasI l x)) ∧ w = w' := by
  have HL := Lib.hid hr.ilen
  go_enter Try.func75, Try.ntmps75
  go_wp2
  go_loop [9] (fun i => ∃ k : Nat, k ≤ n ∧ i = .int .i64 k ∧ Hid (hasI (l.take k) x = false)) (fun i => n - (intOf i).toNat)
  case atStart => exact ⟨0, Nat.zero_le _, rfl, by simp [Hid, hasI]⟩
  case round =>
    obtain ⟨k, hk, rfl, hT⟩ := hrel
    by_cases hlt : k < n
    · obtain ⟨b, o, rfl, hbl, hx, p1⟩ := hr.num hlt
      have HN : Hid (¬ l[k] = x → hasI (l.take (k + 1)) x = false) := fun h => contains_take hx hT.out h
      have HY : Hid (l[k] = x → hasI l x = true) := fun h => contains_at hx h
      generalize l[k] = z at *
      clear hx
      by_cases hz : z = x
      · have HF := Lib.hid (HY.out hz)
        subst hz
        go_wp2
        go_ret
        exact ⟨by rw [HF.out]; rfl, rfl⟩
      · have HF := Lib.hid (HN.out hz)
        have h1 : (z == x) = false := by simp; exact hz
        clear hz
        go_wp2
        go_round
        case rel => exact ⟨k + 1, by omega, by go_num, HF⟩
        case measure => simp [intOf]; omega
    · go_wp2
      go_ret
      have hT := hT.out
      rw [List.take_of_length_le (by rw [HL.out]; omega)] at hT
      exact ⟨by rw [hT]; rfl, rfl⟩

/-- how heavy some are together, of weights -/
def wtsum (W : List Int) (o : List Int) : Int := (o.map fun k => W.getD k.toNat 0).sum
theorem wtsum_fst (S : List Sb) (o : List Int) : wtsum (S.map Prod.fst) o = wsum S o := by
  unfold wtsum wsum
  congr 1
  apply List.map_congr_left
  intro k _
  unfold wOf
  simp only [List.getD_eq_getElem?_getD, List.getElem?_map]
  cases S[k.toNat]? <;> simp
theorem wtsum_take {W o : List Int} {k : Nat} (h : k < o.length) : wtsum W (o.take (k + 1)) = wtsum W (o.take k) + W.getD (o[k]).toNat 0 := by
  unfold wtsum
  rw [List.take_succ_eq_append_getElem h, List.map_append, List.sum_append]
  simp
theorem wtsum_bound {W o : List Int} (hW : ∀ z ∈ W, 0 ≤ z ∧ z ≤ 1000) (ho : ∀ z ∈ o, 0 ≤ z ∧ z < W.length) : 0 ≤ wtsum W o ∧ wtsum W o ≤ 1000 * o.length := by
  unfold wtsum
  have := sumW_bound (l := o.map fun k => W.getD k.toNat 0) (fun z hz => by
    obtain ⟨k, hk, rfl⟩ := List.mem_map.1 hz
    have h := ho k hk
    rw [List.getD_eq_getElem?_getD, List.getElem?_eq_getElem (show k.toNat < W.length by omega)]
    exact hW _ (List.getElem_mem _))
  simpa using this

set_option maxRecDepth 100000 in
set_option maxHeartbeats 2000000 in
theorem weigh_any (Ao : Option Addr) (no co : Nat) (o : List Int) (Aw : Option Addr) (nw cw : Nat) (W : List Int) (bw : Nat) (w : World) (hro : Rd w 1 Ao no (intCells o)) (hno : no ≤ 1048576)
    (hc : w.cell? ⟨bw, 0, none⟩ = some (.slice Aw nw cw)) (hrw : Rd w 1 Aw nw (intCells W)) (hW : ∀ z ∈ W, 0 ≤ z ∧ z ≤ 1000) (ho : ∀ z ∈ o, 0 ≤ z ∧ z < W.length) (hnw : nw ≤ 1000) :
    Calls Try.prog 81 #[.slice Ao no co, .pointer (some ⟨bw, 0, none⟩)] w fun e w' => e = .returned (.int .i64 (wtsum W o)) ∧ w = w' := by
  have HL := Lib.hid hro.ilen
  have HLW := Lib.hid hrw.ilen
  have HW := Lib.hid hW
  have HO := Lib.hid ho
  clear hW ho
  go_enter Try.func81, Try.ntmps81
  go_wp2
  go_loop [4, 9] (fun s i => ∃ k : Nat, k ≤ no ∧ i = .int .i64 k ∧ s = .int .i64 (wtsum W (o.take k))) (fun _ i => no - (intOf i).toNat)
  case atStart => exact ⟨0, Nat.zero_le _, rfl, by simp [wtsum]⟩
  case round =>
    obtain ⟨k, hk, rfl, rfl⟩ := hrel
    by_cases hlt : k < no
    · obtain ⟨b1, o1, rfl, _, hx, p1⟩ := hro.num hlt
      have hz := HO.out _ (List.getElem_mem hx)
      have b2 := wtsum_bound (o := o.take k) HW.out (fun z hz => HO.out z (List.mem_of_mem_take hz))
      have b3 : (o.take k).length ≤ 1048576 := by rw [List.length_take]; omega
      have HS := Lib.hid (wtsum_take (W := W) hx)
      generalize o[k] = z at *
      obtain ⟨q, rfl⟩ : ∃ q : Nat, z = q := ⟨z.toNat, by omega⟩
      have hq : q < nw := by have := HLW.out; omega
      obtain ⟨b4, o4, rfl, _, hx4, p4⟩ := hrw.num hq
      have hv := HW.out _ (List.getElem_mem hx4)
      have hg : W.getD (q : Int).toNat 0 = W[q] := by rw [Int.toNat_natCast, List.getD_eq_getElem?_getD, List.getElem?_eq_getElem hx4]; rfl
      rw [hg] at HS
      clear hg
      generalize W[q] = v at *
      generalize wtsum W (o.take k) = s at *
      obtain ⟨hv1, hv2⟩ := hv
      obtain ⟨b2a, b2b⟩ := b2
      have hqi : ((q : Int) < (nw : Int)) = True := by simp; omega
      clear hz hx hx4
      go_wp2
      go_round
      case rel => exact ⟨k + 1, by omega, by go_num, by rw [HS.out]⟩
      case measure => simp [intOf]; omega
    · go_wp2
      go_ret
      have : k = no := by omega
      subst this
      exact ⟨ret_int (by rw [List.take_of_length_le (by rw [HL.out]; exact Nat.le_refl _)]), rfl⟩

set_option maxHeartbeats 1000000 in
theorem weigher_any (Aw : Option Addr) (nw cw : Nat) (w : World) :
    Calls Try.prog 69 #[.slice Aw nw cw] w fun e w' => (∃ bw, e = .returned (.func (.func 81) #[] #[.pointer (some ⟨bw, 0, none⟩)]) ∧ w'.cell? ⟨bw, 0, none⟩ = some (.slice Aw nw cw) ∧ w.heap.size ≤ bw ∧ bw < w'.heap.size) ∧ Below w.heap.size w w' := by
  have hmf : ∀ (fn : Fn) (first cap : Array Value) (w : World), (Instr.makeFunc fn first cap).run Try.prog w = .ok (.func fn first cap) w := fun _ _ _ _ => rfl
  go_enter Try.func69, Try.ntmps69
  go_wp2
  go_ret
  exact ⟨⟨w.heap.size, rfl, by simp [go_sem], by omega, by simp⟩, by (repeat (first | (with_reducible exact Below.refl _ _) | (with_reducible assumption) | (with_reducible refine Below.drew ?_) | ((with_reducible refine balloc ?_ _ ?_); · (first | (simp; done) | (simp; omega) | omega)) | ((with_reducible refine bset ?_ _ ?_); · (first | (simp; done) | (simp; omega) | omega)) | (with_reducible refine bdrewN _ ?_) | ((with_reducible refine bcall ?_ (by assumption) ?_); · (first | (simp; done) | (simp; omega) | omega))))⟩



end Go.Proofs.Ytkijcpbjjbhnhaa
