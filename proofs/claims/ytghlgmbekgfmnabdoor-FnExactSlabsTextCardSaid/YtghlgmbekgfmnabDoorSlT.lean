/-
  Contracts: texts joined by commas; SlabsText of the model. Conditions: none.
-/
import Derived.Test.YtghlgmbekgfmnabDoorStkA
import Derived.Test.YtghlgmbekgfmnabDoorNumE
import Derived.Test.YtghlgmbekgfmnabDoorLibJ
namespace Go.Proofs.YtghlgmbekgfmnabDoor
open Go.RowKit
set_option linter.unusedVariables false
set_option linter.unusedSimpArgs false

/-- the first k pieces with a comma between them -/
def textJ (ss : List ByteArray) : Nat → ByteArray
  | 0 => ⟨#[]⟩
  | k + 1 => (if k = 0 then textJ ss k else textJ ss k ++ ⟨#[44]⟩) ++ ss.getD k ByteArray.empty
theorem textJ_tail (x : ByteArray) (r : List ByteArray) (k : Nat) (h : k ≤ r.length) : (textJ (x :: r) (k + 1)).data.toList = x.data.toList ++ Lib.joinTail [44] ((r.map (·.data.toList)).take k) := by
  induction k with
  | zero =>
    show ((⟨#[]⟩ : ByteArray) ++ x).data.toList = _
    simp [Lib.joinTail]
  | succ k ih =>
    have hk : k < r.length := by omega
    have e : (r.map (·.data.toList))[k]? = some (r[k].data.toList) := by simp [hk]
    rw [Lib.joinTail_take_succ _ _ _ _ e]
    have g : (x :: r).getD (k + 1) ByteArray.empty = r[k] := by simp [hk]
    show ((if k + 1 = 0 then textJ (x :: r) (k + 1) else textJ (x :: r) (k + 1) ++ ⟨#[44]⟩) ++ (x :: r).getD (k + 1) ByteArray.empty).data.toList = _
    rw [if_neg (by omega), g]
    simp only [ByteArray.data_append, Array.toList_append, ih (by omega), List.append_assoc]
theorem textJ_join (ss : List ByteArray) : (⟨(Lib.join (ss.map (·.data.toList)) [44]).toArray⟩ : ByteArray) = textJ ss ss.length := by
  cases ss with
  | nil => rfl
  | cons x r =>
    have h := textJ_tail x r r.length (Nat.le_refl _)
    rw [List.take_of_length_le (by simp)] at h
    rw [List.map_cons, Lib.join_cons, ← h]
    rfl
theorem textJ_size {ss : List ByteArray} (h : ∀ s ∈ ss, s.size ≤ 3003) (k : Nat) : (textJ ss k).size ≤ 3004 * k := by
  induction k with
  | zero => exact Nat.zero_le _
  | succ k ih =>
    have g : (ss.getD k ByteArray.empty).size ≤ 3003 := by
      by_cases hk : k < ss.length
      · have e : ss.getD k ByteArray.empty = ss[k] := by simp [hk]
        rw [e]; exact h _ (List.getElem_mem hk)
      · have e : ss.getD k ByteArray.empty = ByteArray.empty := by simp [List.getD, List.getElem?_eq_none (Nat.le_of_not_lt hk)]
        rw [e]; exact Nat.zero_le _
    simp only [textJ]
    split
    · rw [ByteArray.size_append]; omega
    · rw [ByteArray.size_append, ByteArray.size_append]
      have : (⟨#[44]⟩ : ByteArray).size = 1 := rfl
      omega
theorem textJ_first {ss : List ByteArray} {s : ByteArray} (h : ss[0]? = some s) : textJ ss 1 = s := by
  have e : ss.getD 0 ByteArray.empty = s := by simp [List.getD, h]
  show (⟨#[]⟩ : ByteArray) ++ ss.getD 0 ByteArray.empty = s
  rw [e]
  apply ByteArray.ext
  simp
theorem textJ_next {ss : List ByteArray} {s : ByteArray} {k : Nat} (h : ss[k]? = some s) (hk : k ≠ 0) : textJ ss (k + 1) = textJ ss k ++ ⟨#[44]⟩ ++ s := by
  have e : ss.getD k ByteArray.empty = s := by simp [List.getD, h]
  simp only [textJ, e, if_neg hk]

abbrev textV (s : ByteArray) (ok : Bool) : Value := .tuple #[.string s, .bool ok]
/-- the text of a slab -/
def slT (p : Sb) : ByteArray := decS p.1.toNat ++ (⟨#[94]⟩ : ByteArray) ++ decS p.2.toNat
def slL (S : List Sb) : List ByteArray := S.map slT
def slR (S : List Sb) : ByteArray := if slB S then textJ (slL S) S.length else ⟨#[]⟩
theorem slL_size {S : List Sb} (h : slB S = true) : ∀ s ∈ slL S, s.size ≤ 3003 := by
  intro s hs
  obtain ⟨p, hp, rfl⟩ := List.mem_map.1 hs
  obtain ⟨k, hk, rfl⟩ := List.getElem_of_mem hp
  have hb := slB_at h hk
  have h1 := (size_decE (S[k]).1.toNat).2
  have h2 := (size_decE (S[k]).2.toNat).2
  unfold slT
  rw [ByteArray.size_append, ByteArray.size_append]
  have h3 : (⟨#[94]⟩ : ByteArray).size = 1 := rfl
  omega

set_option maxRecDepth 100000 in
set_option maxHeartbeats 4000000 in
theorem skText_any (A : Option Addr) (n c : Nat) (S : List Sb) (w : World) (hr : Rd w 2 A n (pairCells S)) (hS : slB S = true) :
    Calls Tryd.prog 26 #[.slice A n c] w fun e w' => e = .returned (.string (textJ (slL S) n)) ∧ Below w.heap.size w w' := by
  have hll : S.length = n := by have := hr.1; rw [length_pairCells] at this; omega
  have n7 : n ≤ 7 := by have := slB_len hS; omega
  have HT := Lib.hid (textJ_size (slL_size hS))
  have HSA : Hid (∀ k (hk : k < S.length), 1 ≤ (S[k]).1 ∧ (S[k]).1 ≤ 1000 ∧ 1 ≤ (S[k]).2 ∧ (S[k]).2 ≤ 1000) := fun k hk => slB_at hS hk
  have HL := Lib.hid hll
  clear hll hS
  go_enter Tryd.func26, Tryd.ntmps26
  go_wp2
  go_loopw [3, 8] (fun t i wr => ∃ k : Nat, k ≤ n ∧ i = .int .i64 k ∧ t = .string (textJ (slL S) k) ∧ Below w.heap.size w wr) (fun _ i _ => n - (intOf i).toNat)
  case atStart => exact ⟨0, Nat.zero_le _, rfl, rfl, Below.refl _ _⟩
  case round =>
    obtain ⟨k, hk, rfl, rfl, hB⟩ := hrel
    have sB := hB.size
    by_cases hlt : k < n
    · obtain ⟨b, o, rfl, hbl, hx, p1, p2⟩ := (hr.later hB (Nat.le_refl _)).pair hlt
      obtain ⟨q1, q2, q3, q4⟩ := HSA.out k hx
      have ht := HT.out k
      have hget : (slL S)[k]? = some (slT S[k]) := by simp [slL, hx]
      have HE0 : Hid (k = 0 → textJ (slL S) 1 = slT S[k]) := fun h => by subst h; exact textJ_first hget
      have HE1 : Hid (k ≠ 0 → textJ (slL S) (k + 1) = textJ (slL S) k ++ ⟨#[44]⟩ ++ slT S[k]) := fun h => textJ_next hget h
      generalize S[k] = q at *
      obtain ⟨x, y⟩ := q
      simp only at p1 p2 q1 q2 q3 q4
      obtain ⟨a, rfl⟩ : ∃ a : Nat, x = a := ⟨x.toNat, by omega⟩
      obtain ⟨b2, rfl⟩ : ∃ a : Nat, y = a := ⟨y.toNat, by omega⟩
      have hst : slT ((a : Int), (b2 : Int)) = decS a ++ (⟨#[94]⟩ : ByteArray) ++ decS b2 := by simp [slT]
      rw [hst] at HE0 HE1
      have z1 := (size_decE a).2
      have z2 := (size_decE b2).2
      have HX := Lib.hid (fun wx => l1Num_decE a (by omega) wx)
      have HY := Lib.hid (fun wx => l1Num_decE b2 (by omega) wx)
      have hba : Below w.heap.size w (wr.alloc (.cells #[.int .i64 a, .int .i64 b2] 51)) := hB.alloc sB _
      have HBA := Lib.hid hba
      have c0 : (wr.alloc (.cells #[.int .i64 a, .int .i64 b2] 51)).cell? ⟨wr.heap.size, 0, none⟩ = some (.int .i64 a) := by simp [go_sem]
      have c1 : (wr.alloc (.cells #[.int .i64 a, .int .i64 b2] 51)).cell? ⟨wr.heap.size, 1, none⟩ = some (.int .i64 b2) := by simp [go_sem]
      clear hst hget hx hba
      generalize decS a = sa at *
      generalize decS b2 = sb at *
      have hc1 : ¬ 9223372036854775807 < sa.size + 1 := by omega
      have hc2 : ¬ 9223372036854775807 < sa.size + 1 + sb.size := by omega
      by_cases h0 : k = 0
      · subst h0
        have HE := Lib.hid (HE0.out rfl)
        clear HE0 HE1 ht
        simp only [Nat.add_zero, Nat.zero_mul] at p1 p2
        have e0 : textJ (slL S) 0 = ⟨#[]⟩ := rfl
        rw [e0]
        go_wp2
        refine wp_region_held_drew (S := (fun w' => w'.cell? ⟨wr.heap.size, 0, none⟩ = some (.int .i64 a) ∧ w'.cell? ⟨wr.heap.size, 1, none⟩ = some (.int .i64 b2))) (by kernel_rfl) ?_ (fun hHeld => ?_)
        · ((try dsimp only); (repeat' apply And.intro); all_goals ((repeat (first | (with_reducible refine cell_drew ?_) | (with_reducible refine cell_drewN _ ?_) | ((with_reducible refine cell_alloc ?_ ?_); · first | omega | (simp; done) | (simp; omega) | assumption) | ((with_reducible refine cell_set ?_ ?_); · first | (intro e; injection e; omega) | (intro e; simp at e; done) | (intro e; simp at e; omega)))); first | assumption | (simp; done)))
        refine reg_on (i := 0) (d := 17) (v := ?rv1) rfl rfl (by kernel_rfl) (by kernel_rfl) (by kernel_rfl) (fun _ _ _ h => h) (by rfl) ?ry1 (by assumption) ?rr1
        case ry1 => (intro wz hSw; (try dsimp only at hSw); go_simp; try with_reducible rfl)
        (try simp only [Act.put, List.setIfInBounds_toArray, List.set_cons_zero, List.set_cons_succ])
        refine reg_on (i := 1) (d := 18) (v := ?rv2) rfl rfl (by kernel_rfl) (by kernel_rfl) (by kernel_rfl) (fun _ _ _ h => h) (by rfl) ?ry2 (by assumption) ?rr2
        case ry2 => (intro wz hSw; (try dsimp only at hSw); go_simp; try with_reducible rfl)
        (try simp only [Act.put, List.setIfInBounds_toArray, List.set_cons_zero, List.set_cons_succ])
        refine reg_on (i := 2) (d := 19) (v := ?rv3) rfl rfl (by kernel_rfl) (by kernel_rfl) (by kernel_rfl) (fun _ _ _ h => h) (by rfl) ?ry3 (by assumption) ?rr3
        case ry3 => (intro wz hSw; (try dsimp only at hSw); go_simp; try with_reducible rfl)
        (try simp only [Act.put, List.setIfInBounds_toArray, List.set_cons_zero, List.set_cons_succ])
        refine reg_on (i := 5) (d := 22) (v := ?rv4) rfl rfl (by kernel_rfl) (by kernel_rfl) (by kernel_rfl) (fun _ _ _ h => h) (by rfl) ?ry4 (by assumption) ?rr4
        case ry4 => (intro wz hSw; (try dsimp only at hSw); go_simp; try with_reducible rfl)
        (try simp only [Act.put, List.setIfInBounds_toArray, List.set_cons_zero, List.set_cons_succ])
        refine reg_on (i := 6) (d := 23) (v := ?rv5) rfl rfl (by kernel_rfl) (by kernel_rfl) (by kernel_rfl) (fun _ _ _ h => h) (by rfl) ?ry5 (by assumption) ?rr5
        case ry5 => (intro wz hSw; (try dsimp only at hSw); go_simp; try with_reducible rfl)
        (try simp only [Act.put, List.setIfInBounds_toArray, List.set_cons_zero, List.set_cons_succ])
        refine wpAnyH_ready (rs := [3]) (by kernel_rfl) (by simp) ?_
        refine AllReadyH.cons rfl (fun K hK => ?_) AllReadyH.nil
        go_simp
        go_at_call 47; refine (HX.out _).mono ?_; rintro e wa ⟨rfl, hba⟩; have hBA := bcall (by simp; omega) hba HBA.out.drew; have sa1 := hba.size; (try simp at sa1); have d0 := (hba.cell (p := ⟨wr.heap.size, 0, none⟩) (by simp)).trans (show _ = some (Value.int .i64 (a : Int)) by simp [go_sem]); have d1 := (hba.cell (p := ⟨wr.heap.size, 1, none⟩) (by simp)).trans (show _ = some (Value.int .i64 (b2 : Int)) by simp [go_sem])
        refine hK.out _ _ ?_ (fun hHeld => ?_)
        · ((try dsimp only); (repeat' apply And.intro); all_goals ((repeat (first | (with_reducible refine cell_drew ?_) | (with_reducible refine cell_drewN _ ?_) | ((with_reducible refine cell_alloc ?_ ?_); · first | omega | (simp; done) | (simp; omega) | assumption) | ((with_reducible refine cell_set ?_ ?_); · first | (intro e; injection e; omega) | (intro e; simp at e; done) | (intro e; simp at e; omega)))); first | assumption | (simp; done)))
        clear hK K
        (try simp only [Act.put, List.setIfInBounds_toArray, List.set_cons_zero, List.set_cons_succ])
        refine reg_on (i := 4) (d := 21) (v := ?rv7) rfl rfl (by kernel_rfl) (by kernel_rfl) (by kernel_rfl) (fun _ _ _ h => h) (by rfl) ?ry7 (by assumption) ?rr7
        case ry7 => (intro wz hSw; (try dsimp only at hSw); go_simp; try with_reducible rfl)
        (try simp only [Act.put, List.setIfInBounds_toArray, List.set_cons_zero, List.set_cons_succ])
        refine wpAnyH_ready (rs := [7]) (by kernel_rfl) (by simp) ?_
        refine AllReadyH.cons rfl (fun K hK => ?_) AllReadyH.nil
        go_simp
        go_at_call 47; refine (HY.out _).mono ?_; rintro e wb ⟨rfl, hbb⟩; have hBB := bcall hBA.size hbb hBA; have e0 := (hbb.cell (p := ⟨wr.heap.size, 0, none⟩) (by show wr.heap.size < wa.heap.size; omega)).trans d0; have e1 := (hbb.cell (p := ⟨wr.heap.size, 1, none⟩) (by show wr.heap.size < wa.heap.size; omega)).trans d1
        refine hK.out _ _ ?_ (fun hHeld => ?_)
        · ((try dsimp only); (repeat' apply And.intro); all_goals ((repeat (first | (with_reducible refine cell_drew ?_) | (with_reducible refine cell_drewN _ ?_) | ((with_reducible refine cell_alloc ?_ ?_); · first | omega | (simp; done) | (simp; omega) | assumption) | ((with_reducible refine cell_set ?_ ?_); · first | (intro e; injection e; omega) | (intro e; simp at e; done) | (intro e; simp at e; omega)))); first | assumption | (simp; done)))
        clear hK K
        (try simp only [Act.put, List.setIfInBounds_toArray, List.set_cons_zero, List.set_cons_succ])
        refine reg_on (i := 8) (d := 25) (v := ?rv9) rfl rfl (by kernel_rfl) (by kernel_rfl) (by kernel_rfl) (fun _ _ _ h => h) (by rfl) ?ry9 (by assumption) ?rr9
        case ry9 => (intro wz hSw; (try dsimp only at hSw); go_simp; try with_reducible rfl)
        (try simp only [Act.put, List.setIfInBounds_toArray, List.set_cons_zero, List.set_cons_succ])
        refine reg_on (i := 9) (d := 26) (v := ?rv10) rfl rfl (by kernel_rfl) (by kernel_rfl) (by kernel_rfl) (fun _ _ _ h => h) (by rfl) ?ry10 (by assumption) ?rr10
        case ry10 => (intro wz hSw; (try dsimp only at hSw); go_simp; try with_reducible rfl)
        (try simp only [Act.put, List.setIfInBounds_toArray, List.set_cons_zero, List.set_cons_succ])
        refine reg_on (i := 10) (d := 3) (v := ?rv11) rfl rfl (by kernel_rfl) (by kernel_rfl) (by kernel_rfl) (fun _ _ _ h => h) (by rfl) ?ry11 (by assumption) ?rr11
        case ry11 => (intro wz hSw; (try dsimp only at hSw); go_simp; try with_reducible rfl)
        (try simp only [Act.put, List.setIfInBounds_toArray, List.set_cons_zero, List.set_cons_succ])
        refine wpAnyH_done (by kernel_rfl) ?_ _
        have HBF := Lib.hid hBB
        clear d0 d1 e0 e1 hba hbb hBA hBB
        go_wp2
        go_roundw
        case rel => exact ⟨1, by omega, by go_num, by rw [HE.out]; first | rfl | (congr 1; apply ByteArray.ext; simp), HBF.out⟩
        case measure => simp [intOf]; omega
      · have HE := Lib.hid (HE1.out h0)
        clear HE0 HE1
        have h0' : (0 : Int) < k := by omega
        generalize textJ (slL S) k = tk at *
        have hs1 : (tk ++ (⟨#[44]⟩ : ByteArray)).size = tk.size + 1 := by rw [ByteArray.size_append]; rfl
        have hc3 : ¬ 9223372036854775807 < tk.size + 1 + (sa.size + 1 + sb.size) := by omega
        have hc4 : ¬ 9223372036854775807 < tk.size + 1 := by omega
        go_wp2
        refine wp_region_held_drew (S := (fun w' => w'.cell? ⟨wr.heap.size, 0, none⟩ = some (.int .i64 a) ∧ w'.cell? ⟨wr.heap.size, 1, none⟩ = some (.int .i64 b2))) (by kernel_rfl) ?_ (fun hHeld => ?_)
        · ((try dsimp only); (repeat' apply And.intro); all_goals ((repeat (first | (with_reducible refine cell_drew ?_) | (with_reducible refine cell_drewN _ ?_) | ((with_reducible refine cell_alloc ?_ ?_); · first | omega | (simp; done) | (simp; omega) | assumption) | ((with_reducible refine cell_set ?_ ?_); · first | (intro e; injection e; omega) | (intro e; simp at e; done) | (intro e; simp at e; omega)))); first | assumption | (simp; done)))
        refine reg_on (i := 0) (d := 17) (v := ?rv12) rfl rfl (by kernel_rfl) (by kernel_rfl) (by kernel_rfl) (fun _ _ _ h => h) (by rfl) ?ry12 (by assumption) ?rr12
        case ry12 => (intro wz hSw; (try dsimp only at hSw); go_simp; try with_reducible rfl)
        (try simp only [Act.put, List.setIfInBounds_toArray, List.set_cons_zero, List.set_cons_succ])
        refine reg_on (i := 1) (d := 18) (v := ?rv13) rfl rfl (by kernel_rfl) (by kernel_rfl) (by kernel_rfl) (fun _ _ _ h => h) (by rfl) ?ry13 (by assumption) ?rr13
        case ry13 => (intro wz hSw; (try dsimp only at hSw); go_simp; try with_reducible rfl)
        (try simp only [Act.put, List.setIfInBounds_toArray, List.set_cons_zero, List.set_cons_succ])
        refine reg_on (i := 2) (d := 19) (v := ?rv14) rfl rfl (by kernel_rfl) (by kernel_rfl) (by kernel_rfl) (fun _ _ _ h => h) (by rfl) ?ry14 (by assumption) ?rr14
        case ry14 => (intro wz hSw; (try dsimp only at hSw); go_simp; try with_reducible rfl)
        (try simp only [Act.put, List.setIfInBounds_toArray, List.set_cons_zero, List.set_cons_succ])
        refine reg_on (i := 5) (d := 22) (v := ?rv15) rfl rfl (by kernel_rfl) (by kernel_rfl) (by kernel_rfl) (fun _ _ _ h => h) (by rfl) ?ry15 (by assumption) ?rr15
        case ry15 => (intro wz hSw; (try dsimp only at hSw); go_simp; try with_reducible rfl)
        (try simp only [Act.put, List.setIfInBounds_toArray, List.set_cons_zero, List.set_cons_succ])
        refine reg_on (i := 6) (d := 23) (v := ?rv16) rfl rfl (by kernel_rfl) (by kernel_rfl) (by kernel_rfl) (fun _ _ _ h => h) (by rfl) ?ry16 (by assumption) ?rr16
        case ry16 => (intro wz hSw; (try dsimp only at hSw); go_simp; try with_reducible rfl)
        (try simp only [Act.put, List.setIfInBounds_toArray, List.set_cons_zero, List.set_cons_succ])
        refine wpAnyH_ready (rs := [3]) (by kernel_rfl) (by simp) ?_
        refine AllReadyH.cons rfl (fun K hK => ?_) AllReadyH.nil
        go_simp
        go_at_call 47; refine (HX.out _).mono ?_; rintro e wa ⟨rfl, hba⟩; have hBA := bcall (by simp; omega) hba HBA.out.drew; have sa1 := hba.size; (try simp at sa1); have d0 := (hba.cell (p := ⟨wr.heap.size, 0, none⟩) (by simp)).trans (show _ = some (Value.int .i64 (a : Int)) by simp [go_sem]); have d1 := (hba.cell (p := ⟨wr.heap.size, 1, none⟩) (by simp)).trans (show _ = some (Value.int .i64 (b2 : Int)) by simp [go_sem])
        refine hK.out _ _ ?_ (fun hHeld => ?_)
        · ((try dsimp only); (repeat' apply And.intro); all_goals ((repeat (first | (with_reducible refine cell_drew ?_) | (with_reducible refine cell_drewN _ ?_) | ((with_reducible refine cell_alloc ?_ ?_); · first | omega | (simp; done) | (simp; omega) | assumption) | ((with_reducible refine cell_set ?_ ?_); · first | (intro e; injection e; omega) | (intro e; simp at e; done) | (intro e; simp at e; omega)))); first | assumption | (simp; done)))
        clear hK K
        (try simp only [Act.put, List.setIfInBounds_toArray, List.set_cons_zero, List.set_cons_succ])
        refine reg_on (i := 4) (d := 21) (v := ?rv18) rfl rfl (by kernel_rfl) (by kernel_rfl) (by kernel_rfl) (fun _ _ _ h => h) (by rfl) ?ry18 (by assumption) ?rr18
        case ry18 => (intro wz hSw; (try dsimp only at hSw); go_simp; try with_reducible rfl)
        (try simp only [Act.put, List.setIfInBounds_toArray, List.set_cons_zero, List.set_cons_succ])
        refine wpAnyH_ready (rs := [7]) (by kernel_rfl) (by simp) ?_
        refine AllReadyH.cons rfl (fun K hK => ?_) AllReadyH.nil
        go_simp
        go_at_call 47; refine (HY.out _).mono ?_; rintro e wb ⟨rfl, hbb⟩; have hBB := bcall hBA.size hbb hBA; have e0 := (hbb.cell (p := ⟨wr.heap.size, 0, none⟩) (by show wr.heap.size < wa.heap.size; omega)).trans d0; have e1 := (hbb.cell (p := ⟨wr.heap.size, 1, none⟩) (by show wr.heap.size < wa.heap.size; omega)).trans d1
        refine hK.out _ _ ?_ (fun hHeld => ?_)
        · ((try dsimp only); (repeat' apply And.intro); all_goals ((repeat (first | (with_reducible refine cell_drew ?_) | (with_reducible refine cell_drewN _ ?_) | ((with_reducible refine cell_alloc ?_ ?_); · first | omega | (simp; done) | (simp; omega) | assumption) | ((with_reducible refine cell_set ?_ ?_); · first | (intro e; injection e; omega) | (intro e; simp at e; done) | (intro e; simp at e; omega)))); first | assumption | (simp; done)))
        clear hK K
        (try simp only [Act.put, List.setIfInBounds_toArray, List.set_cons_zero, List.set_cons_succ])
        refine reg_on (i := 8) (d := 25) (v := ?rv20) rfl rfl (by kernel_rfl) (by kernel_rfl) (by kernel_rfl) (fun _ _ _ h => h) (by rfl) ?ry20 (by assumption) ?rr20
        case ry20 => (intro wz hSw; (try dsimp only at hSw); go_simp; try with_reducible rfl)
        (try simp only [Act.put, List.setIfInBounds_toArray, List.set_cons_zero, List.set_cons_succ])
        refine reg_on (i := 9) (d := 26) (v := ?rv21) rfl rfl (by kernel_rfl) (by kernel_rfl) (by kernel_rfl) (fun _ _ _ h => h) (by rfl) ?ry21 (by assumption) ?rr21
        case ry21 => (intro wz hSw; (try dsimp only at hSw); go_simp; try with_reducible rfl)
        (try simp only [Act.put, List.setIfInBounds_toArray, List.set_cons_zero, List.set_cons_succ])
        refine reg_on (i := 10) (d := 3) (v := ?rv22) rfl rfl (by kernel_rfl) (by kernel_rfl) (by kernel_rfl) (fun _ _ _ h => h) (by rfl) ?ry22 (by assumption) ?rr22
        case ry22 => (intro wz hSw; (try dsimp only at hSw); go_simp; try with_reducible rfl)
        (try simp only [Act.put, List.setIfInBounds_toArray, List.set_cons_zero, List.set_cons_succ])
        refine wpAnyH_done (by kernel_rfl) ?_ _
        have HBF := Lib.hid hBB
        clear d0 d1 e0 e1 hba hbb hBA hBB
        go_wp2
        go_roundw
        case rel => exact ⟨k + 1, by omega, by go_num, by rw [HE.out], HBF.out⟩
        case measure => simp [intOf]; omega
    · have hkn : k = n := by omega
      subst hkn
      go_wp2
      go_ret
      exact ⟨rfl, hB⟩

set_option maxRecDepth 100000 in
set_option maxHeartbeats 1000000 in
theorem sSlabsText_any (A : Option Addr) (n c : Nat) (S : List Sb) (w : World) (hr : Rd w 2 A n (pairCells S)) (hn : n ≤ 4000000000) :
    Calls Tryd.prog 8 #[.slice A n c] w fun e w' => e = .returned (textV (slR S) (slB S)) ∧ Below w.heap.size w w' := by
  have HG := Lib.hid (fun wx h => skSlabs_any A n c S wx h hn)
  have hll : S.length = n := by have := hr.1; rw [length_pairCells] at this; omega
  cases hB : slB S
  · rw [show slR S = ⟨#[]⟩ by simp [slR, hB]]
    rw [hB] at HG
    clear hB hll
    go_enter Tryd.func8, Tryd.ntmps8
    go_wp2_with fail
    refine (HG.out _ hr).mono ?_; rintro e w1 ⟨rfl, hb1⟩
    go_wp2
    refine bodyPost_ret (v := textV ⟨#[]⟩ false) (by simp [results, Tryd.results8, go_sem]) rfl ⟨rfl, hb1⟩
  · rw [show slR S = textJ (slL S) n by simp [slR, hB, hll]]
    have HT := Lib.hid (fun wx h => skText_any A n c S wx h hB)
    rw [hB] at HG
    generalize textJ (slL S) n = t at *
    clear hB hll
    go_enter Tryd.func8, Tryd.ntmps8
    go_wp2_with fail
    refine (HG.out _ hr).mono ?_; rintro e w1 ⟨rfl, hb1⟩
    go_wp2_with fail
    refine (HT.out _ (hr.later hb1 (Nat.le_refl _))).mono ?_; rintro e w2 ⟨rfl, hb2⟩
    have hB2 := bcall hb1.size hb2 hb1
    go_wp2
    refine bodyPost_ret (v := textV t true) (by simp [results, Tryd.results8, go_sem]) rfl ⟨rfl, hB2⟩
end Go.Proofs.YtghlgmbekgfmnabDoor
