/-
  Contracts: PuzzleText of the model. Conditions: none.
-/
import Derived.Test.YtghlgmbekgfmnabDoorPzC
import Derived.Test.YtghlgmbekgfmnabDoorPzM
import Derived.Test.YtghlgmbekgfmnabDoorNumD
import Derived.Test.YtghlgmbekgfmnabDoorLibJ
namespace Go.Proofs.YtghlgmbekgfmnabDoor
open Go.RowKit Go.Joins
set_option linter.unusedVariables false
set_option linter.unusedSimpArgs false

/-- the first k pieces with a comma between them -/
def textJ (ss : List ByteArray) : Nat → ByteArray
  | 0 => ⟨#[]⟩
  | k + 1 => (if k = 0 then textJ ss k else textJ ss k ++ ⟨#[44]⟩) ++ ss.getD k ByteArray.empty
theorem textJ_tail (x : ByteArray) (r : List ByteArray) (k : Nat) (h : k ≤ r.length) : (textJ (x :: r) (k + 1)).data.toList = x.data.toList ++ Lib.joinTail [44] ((r.map (·.data.toList)).take k) := by
  induction k with
  | zero =>
    show ((⟨#[]⟩ : ByteArray) ++ x).data.toList = _
    simp [Lib.joinTail]
  | succ k ih =>
    have hk : k < r.length := by omega
    have e : (r.map (·.data.toList))[k]? = some (r[k].data.toList) := by simp [hk]
    rw [Lib.joinTail_take_succ _ _ _ _ e]
    have g : (x :: r).getD (k + 1) ByteArray.empty = r[k] := by simp [hk]
    show ((if k + 1 = 0 then textJ (x :: r) (k + 1) else textJ (x :: r) (k + 1) ++ ⟨#[44]⟩) ++ (x :: r).getD (k + 1) ByteArray.empty).data.toList = _
    rw [if_neg (by omega), g]
    simp only [ByteArray.data_append, Array.toList_append, ih (by omega), List.append_assoc]
theorem textJ_join (ss : List ByteArray) : (⟨(Lib.join (ss.map (·.data.toList)) [44]).toArray⟩ : ByteArray) = textJ ss ss.length := by
  cases ss with
  | nil => rfl
  | cons x r =>
    have h := textJ_tail x r r.length (Nat.le_refl _)
    rw [List.take_of_length_le (by simp)] at h
    rw [List.map_cons, Lib.join_cons, ← h]
    rfl
theorem textJ_size {ss : List ByteArray} (h : ∀ s ∈ ss, s.size ≤ 3003) (k : Nat) : (textJ ss k).size ≤ 3004 * k := by
  induction k with
  | zero => exact Nat.zero_le _
  | succ k ih =>
    have g : (ss.getD k ByteArray.empty).size ≤ 3003 := by
      by_cases hk : k < ss.length
      · have e : ss.getD k ByteArray.empty = ss[k] := by simp [hk]
        rw [e]; exact h _ (List.getElem_mem hk)
      · have e : ss.getD k ByteArray.empty = ByteArray.empty := by simp [List.getD, List.getElem?_eq_none (Nat.le_of_not_lt hk)]
        rw [e]; exact Nat.zero_le _
    simp only [textJ]
    split
    · rw [ByteArray.size_append]; omega
    · rw [ByteArray.size_append, ByteArray.size_append]
      have : (⟨#[44]⟩ : ByteArray).size = 1 := rfl
      omega
theorem textJ_first {ss : List ByteArray} {s : ByteArray} (h : ss[0]? = some s) : textJ ss 1 = s := by
  have e : ss.getD 0 ByteArray.empty = s := by simp [List.getD, h]
  show (⟨#[]⟩ : ByteArray) ++ ss.getD 0 ByteArray.empty = s
  rw [e]
  apply ByteArray.ext
  simp
theorem textJ_next {ss : List ByteArray} {s : ByteArray} {k : Nat} (h : ss[k]? = some s) (hk : k ≠ 0) : textJ ss (k + 1) = textJ ss k ++ ⟨#[44]⟩ ++ s := by
  have e : ss.getD k ByteArray.empty = s := by simp [List.getD, h]
  simp only [textJ, e, if_neg hk]

abbrev textV (s : ByteArray) (ok : Bool) : Value := .tuple #[.string s, .bool ok]
def dotS : ByteArray := ⟨#[46]⟩
/-- the text of a clue -/
def puT (q : Clu) : ByteArray := decS q.1.toNat ++ (⟨#[46]⟩ : ByteArray) ++ decS q.2.1.toNat ++ (⟨#[46]⟩ : ByteArray) ++ decS q.2.2.toNat
def puL (S : List Clu) : List ByteArray := S.map puT
def puR (S : List Clu) : ByteArray := if pzB S then textJ (puL S) S.length else ⟨#[]⟩
theorem puB_at {S : List Clu} (h : pzB S = true) {k : Nat} (hk : k < S.length) : 0 ≤ (S[k]).1 ∧ (S[k]).1 < 100 ∧ 0 ≤ (S[k]).2.1 ∧ (S[k]).2.1 < 100 ∧ 0 ≤ (S[k]).2.2 ∧ (S[k]).2.2 < 100 := by
  have h1 := cluB_true ((pzB_true h).2 S[k] (List.getElem_mem hk))
  have h2 := mostA_le (S[k]).1
  have h3 := mostB_le (S[k]).1
  omega
theorem puL_size {S : List Clu} (h : pzB S = true) : ∀ s ∈ puL S, s.size ≤ 3003 := by
  intro s hs
  obtain ⟨p, hp, rfl⟩ := List.mem_map.1 hs
  obtain ⟨k, hk, rfl⟩ := List.getElem_of_mem hp
  have hb := puB_at h hk
  have h1 := (size_decS (n := (S[k]).1.toNat) (by omega)).2
  have h2 := (size_decS (n := (S[k]).2.1.toNat) (by omega)).2
  have h4 := (size_decS (n := (S[k]).2.2.toNat) (by omega)).2
  unfold puT
  simp only [ByteArray.size_append]
  have h3 : (⟨#[46]⟩ : ByteArray).size = 1 := rfl
  omega

set_option maxRecDepth 100000 in
set_option maxHeartbeats 4000000 in
theorem pzText_any (A : Option Addr) (n c : Nat) (S : List Clu) (w : World) (hr : Rd w 3 A n (boxCells S)) (hS : pzB S = true) :
    Calls Tryd.prog 38 #[puzV A n c] w fun e w' => e = .returned (.string (textJ (puL S) n)) ∧ Below w.heap.size w w' := by
  have hll : S.length = n := by have := hr.1; rw [length_boxCells] at this; omega
  have n6 : n ≤ 6 := by have := (pzB_true hS).1; omega
  have HT := Lib.hid (textJ_size (puL_size hS))
  have HSA : Hid (∀ k (hk : k < S.length), 0 ≤ (S[k]).1 ∧ (S[k]).1 < 100 ∧ 0 ≤ (S[k]).2.1 ∧ (S[k]).2.1 < 100 ∧ 0 ≤ (S[k]).2.2 ∧ (S[k]).2.2 < 100) := fun k hk => puB_at hS hk
  have HL := Lib.hid hll
  have hb0 : Below w.heap.size w (w.alloc (.cells #[.slice A n c] 41)) := (Below.refl _ _).alloc (Nat.le_refl _) _
  clear hll hS
  go_enter Tryd.func38, Tryd.ntmps38
  go_wp2
  go_loopw [3, 9] (fun t i wr => ∃ k : Nat, k ≤ n ∧ i = .int .i64 k ∧ t = .string (textJ (puL S) k) ∧ Below w.heap.size w wr) (fun _ i _ => n - (intOf i).toNat)
  case atStart => exact ⟨0, Nat.zero_le _, rfl, rfl, hb0⟩
  case round =>
    obtain ⟨k, hk, rfl, rfl, hB⟩ := hrel
    have sB := hB.size
    by_cases hlt : k < n
    · obtain ⟨b, o, rfl, hbl, hx, p1, p2, p3⟩ := (hr.later hB (Nat.le_refl _)).box hlt
      obtain ⟨q1, q2, q3, q4, q5, q6⟩ := HSA.out k hx
      have ht := HT.out k
      have hget : (puL S)[k]? = some (puT S[k]) := by simp [puL, hx]
      have HE0 : Hid (k = 0 → textJ (puL S) 1 = puT S[k]) := fun h => by subst h; exact textJ_first hget
      have HE1 : Hid (k ≠ 0 → textJ (puL S) (k + 1) = textJ (puL S) k ++ ⟨#[44]⟩ ++ puT S[k]) := fun h => textJ_next hget h
      generalize S[k] = q at *
      obtain ⟨x, y, z⟩ := q
      simp only at p1 p2 p3 q1 q2 q3 q4 q5 q6
      obtain ⟨a, rfl⟩ : ∃ a : Nat, x = a := ⟨x.toNat, by omega⟩
      obtain ⟨b2, rfl⟩ : ∃ a : Nat, y = a := ⟨y.toNat, by omega⟩
      obtain ⟨b3, rfl⟩ : ∃ a : Nat, z = a := ⟨z.toNat, by omega⟩
      have hst : puT ((a : Int), (b2 : Int), (b3 : Int)) = decS a ++ (⟨#[46]⟩ : ByteArray) ++ decS b2 ++ (⟨#[46]⟩ : ByteArray) ++ decS b3 := by simp [puT]
      rw [hst] at HE0 HE1
      have z1 := (size_decS (n := a) (by omega)).2
      have z2 := (size_decS (n := b2) (by omega)).2
      have z3 := (size_decS (n := b3) (by omega)).2
      have HX := Lib.hid (fun wx => l1Num_dec a wx (by omega))
      have HY := Lib.hid (fun wx => l1Num_dec b2 wx (by omega))
      have HZ := Lib.hid (fun wx => l1Num_dec b3 wx (by omega))
      have hba : Below w.heap.size w (wr.alloc (.cells #[.int .i64 a, .int .i64 b2, .int .i64 b3] 70)) := hB.alloc sB _
      have HBA := Lib.hid hba
      have c0 : (wr.alloc (.cells #[.int .i64 a, .int .i64 b2, .int .i64 b3] 70)).cell? ⟨wr.heap.size, 0, none⟩ = some (.int .i64 a) := by simp [go_sem]
      have c1 : (wr.alloc (.cells #[.int .i64 a, .int .i64 b2, .int .i64 b3] 70)).cell? ⟨wr.heap.size, 1, none⟩ = some (.int .i64 b2) := by simp [go_sem]
      have c2 : (wr.alloc (.cells #[.int .i64 a, .int .i64 b2, .int .i64 b3] 70)).cell? ⟨wr.heap.size, 2, none⟩ = some (.int .i64 b3) := by simp [go_sem]
      clear hst hget hx hba
      generalize decS a = sa at *
      generalize decS b2 = sb at *
      generalize decS b3 = sc at *
      have hc1 : ¬ 9223372036854775807 < sa.size + 1 := by omega
      have hc2 : ¬ 9223372036854775807 < sa.size + 1 + sb.size := by omega
      have hc3 : ¬ 9223372036854775807 < sa.size + 1 + sb.size + 1 := by omega
      have hc4 : ¬ 9223372036854775807 < sa.size + 1 + sb.size + 1 + sc.size := by omega
      by_cases h0 : k = 0
      · subst h0
        have HE := Lib.hid (HE0.out rfl)
        clear HE0 HE1 ht
        simp only [Nat.add_zero, Nat.zero_mul] at p1 p2 p3
        have e0 : textJ (puL S) 0 = ⟨#[]⟩ := rfl
        rw [e0]
        go_wp2
        refine wp_region_held_drew (S := (fun w' => w'.cell? ⟨wr.heap.size, 0, none⟩ = some (.int .i64 a) ∧ w'.cell? ⟨wr.heap.size, 1, none⟩ = some (.int .i64 b2) ∧ w'.cell? ⟨wr.heap.size, 2, none⟩ = some (.int .i64 b3))) (by kernel_rfl) ?_ (fun hHeld => ?_)
        · ((try dsimp only); (repeat' apply And.intro); all_goals ((repeat (first | (with_reducible refine cell_drew ?_) | (with_reducible refine cell_drewN _ ?_) | ((with_reducible refine cell_alloc ?_ ?_); · first | omega | (simp; done) | (simp; omega) | assumption) | ((with_reducible refine cell_set ?_ ?_); · first | (intro e; injection e; omega) | (intro e; simp at e; done) | (intro e; simp at e; omega)))); first | assumption | (simp; done)))
        refine reg_on (i := 0) (d := 18) (v := ?rv1) rfl rfl (by kernel_rfl) (by kernel_rfl) (by kernel_rfl) (fun _ _ _ h => h) (by rfl) ?ry1 (by assumption) ?rr1
        case ry1 => (intro wz hSw; (try dsimp only at hSw); go_simp; try with_reducible rfl)
        (try simp only [Act.put, List.setIfInBounds_toArray, List.set_cons_zero, List.set_cons_succ])
        refine reg_on (i := 1) (d := 19) (v := ?rv2) rfl rfl (by kernel_rfl) (by kernel_rfl) (by kernel_rfl) (fun _ _ _ h => h) (by rfl) ?ry2 (by assumption) ?rr2
        case ry2 => (intro wz hSw; (try dsimp only at hSw); go_simp; try with_reducible rfl)
        (try simp only [Act.put, List.setIfInBounds_toArray, List.set_cons_zero, List.set_cons_succ])
        refine reg_on (i := 2) (d := 20) (v := ?rv3) rfl rfl (by kernel_rfl) (by kernel_rfl) (by kernel_rfl) (fun _ _ _ h => h) (by rfl) ?ry3 (by assumption) ?rr3
        case ry3 => (intro wz hSw; (try dsimp only at hSw); go_simp; try with_reducible rfl)
        (try simp only [Act.put, List.setIfInBounds_toArray, List.set_cons_zero, List.set_cons_succ])
        refine reg_on (i := 5) (d := 23) (v := ?rv4) rfl rfl (by kernel_rfl) (by kernel_rfl) (by kernel_rfl) (fun _ _ _ h => h) (by rfl) ?ry4 (by assumption) ?rr4
        case ry4 => (intro wz hSw; (try dsimp only at hSw); go_simp; try with_reducible rfl)
        (try simp only [Act.put, List.setIfInBounds_toArray, List.set_cons_zero, List.set_cons_succ])
        refine reg_on (i := 6) (d := 24) (v := ?rv5) rfl rfl (by kernel_rfl) (by kernel_rfl) (by kernel_rfl) (fun _ _ _ h => h) (by rfl) ?ry5 (by assumption) ?rr5
        case ry5 => (intro wz hSw; (try dsimp only at hSw); go_simp; try with_reducible rfl)
        (try simp only [Act.put, List.setIfInBounds_toArray, List.set_cons_zero, List.set_cons_succ])
        refine reg_on (i := 10) (d := 28) (v := ?rv6) rfl rfl (by kernel_rfl) (by kernel_rfl) (by kernel_rfl) (fun _ _ _ h => h) (by rfl) ?ry6 (by assumption) ?rr6
        case ry6 => (intro wz hSw; (try dsimp only at hSw); go_simp; try with_reducible rfl)
        (try simp only [Act.put, List.setIfInBounds_toArray, List.set_cons_zero, List.set_cons_succ])
        refine reg_on (i := 11) (d := 29) (v := ?rv7) rfl rfl (by kernel_rfl) (by kernel_rfl) (by kernel_rfl) (fun _ _ _ h => h) (by rfl) ?ry7 (by assumption) ?rr7
        case ry7 => (intro wz hSw; (try dsimp only at hSw); go_simp; try with_reducible rfl)
        (try simp only [Act.put, List.setIfInBounds_toArray, List.set_cons_zero, List.set_cons_succ])
        refine wpAnyH_ready (rs := [3]) (by kernel_rfl) (by simp) ?_
        refine AllReadyH.cons rfl (fun K hK => ?_) AllReadyH.nil
        go_simp
        go_at_call 47; refine (HX.out _).mono ?_; rintro e wa ⟨rfl, hbwa⟩; have hBwa := bcall (by simp; omega) hbwa HBA.out.drew; have swa := hbwa.size; (try simp at swa); have dwa0 := (hbwa.cell (p := ⟨wr.heap.size, 0, none⟩) (by simp)).trans (show _ = some (Value.int .i64 (a : Int)) by simp [go_sem]); have dwa1 := (hbwa.cell (p := ⟨wr.heap.size, 1, none⟩) (by simp)).trans (show _ = some (Value.int .i64 (b2 : Int)) by simp [go_sem]); have dwa2 := (hbwa.cell (p := ⟨wr.heap.size, 2, none⟩) (by simp)).trans (show _ = some (Value.int .i64 (b3 : Int)) by simp [go_sem])
        refine hK.out _ _ ?_ (fun hHeld => ?_)
        · ((try dsimp only); (repeat' apply And.intro); all_goals ((repeat (first | (with_reducible refine cell_drew ?_) | (with_reducible refine cell_drewN _ ?_) | ((with_reducible refine cell_alloc ?_ ?_); · first | omega | (simp; done) | (simp; omega) | assumption) | ((with_reducible refine cell_set ?_ ?_); · first | (intro e; injection e; omega) | (intro e; simp at e; done) | (intro e; simp at e; omega)))); first | assumption | (simp; done)))
        clear hK K
        (try simp only [Act.put, List.setIfInBounds_toArray, List.set_cons_zero, List.set_cons_succ])
        refine reg_on (i := 4) (d := 22) (v := ?rv9) rfl rfl (by kernel_rfl) (by kernel_rfl) (by kernel_rfl) (fun _ _ _ h => h) (by rfl) ?ry9 (by assumption) ?rr9
        case ry9 => (intro wz hSw; (try dsimp only at hSw); go_simp; try with_reducible rfl)
        (try simp only [Act.put, List.setIfInBounds_toArray, List.set_cons_zero, List.set_cons_succ])
        refine wpAnyH_ready (rs := [7]) (by kernel_rfl) (by simp) ?_
        refine AllReadyH.cons rfl (fun K hK => ?_) AllReadyH.nil
        go_simp
        go_at_call 47; refine (HY.out _).mono ?_; rintro e wb ⟨rfl, hbwb⟩; have hBwb := bcall hBwa.size hbwb hBwa; have swb := hbwb.size; have dwb0 := (hbwb.cell (p := ⟨wr.heap.size, 0, none⟩) (by show wr.heap.size < wa.heap.size; omega)).trans dwa0; have dwb1 := (hbwb.cell (p := ⟨wr.heap.size, 1, none⟩) (by show wr.heap.size < wa.heap.size; omega)).trans dwa1; have dwb2 := (hbwb.cell (p := ⟨wr.heap.size, 2, none⟩) (by show wr.heap.size < wa.heap.size; omega)).trans dwa2
        refine hK.out _ _ ?_ (fun hHeld => ?_)
        · ((try dsimp only); (repeat' apply And.intro); all_goals ((repeat (first | (with_reducible refine cell_drew ?_) | (with_reducible refine cell_drewN _ ?_) | ((with_reducible refine cell_alloc ?_ ?_); · first | omega | (simp; done) | (simp; omega) | assumption) | ((with_reducible refine cell_set ?_ ?_); · first | (intro e; injection e; omega) | (intro e; simp at e; done) | (intro e; simp at e; omega)))); first | assumption | (simp; done)))
        clear hK K
        (try simp only [Act.put, List.setIfInBounds_toArray, List.set_cons_zero, List.set_cons_succ])
        refine reg_on (i := 8) (d := 26) (v := ?rv11) rfl rfl (by kernel_rfl) (by kernel_rfl) (by kernel_rfl) (fun _ _ _ h => h) (by rfl) ?ry11 (by assumption) ?rr11
        case ry11 => (intro wz hSw; (try dsimp only at hSw); go_simp; try with_reducible rfl)
        (try simp only [Act.put, List.setIfInBounds_toArray, List.set_cons_zero, List.set_cons_succ])
        refine reg_on (i := 9) (d := 27) (v := ?rv12) rfl rfl (by kernel_rfl) (by kernel_rfl) (by kernel_rfl) (fun _ _ _ h => h) (by rfl) ?ry12 (by assumption) ?rr12
        case ry12 => (intro wz hSw; (try dsimp only at hSw); go_simp; try with_reducible rfl)
        (try simp only [Act.put, List.setIfInBounds_toArray, List.set_cons_zero, List.set_cons_succ])
        refine wpAnyH_ready (rs := [12]) (by kernel_rfl) (by simp) ?_
        refine AllReadyH.cons rfl (fun K hK => ?_) AllReadyH.nil
        go_simp
        go_at_call 47; refine (HZ.out _).mono ?_; rintro e wc ⟨rfl, hbwc⟩; have hBwc := bcall hBwb.size hbwc hBwb; have swc := hbwc.size; have dwc0 := (hbwc.cell (p := ⟨wr.heap.size, 0, none⟩) (by show wr.heap.size < wb.heap.size; omega)).trans dwb0; have dwc1 := (hbwc.cell (p := ⟨wr.heap.size, 1, none⟩) (by show wr.heap.size < wb.heap.size; omega)).trans dwb1; have dwc2 := (hbwc.cell (p := ⟨wr.heap.size, 2, none⟩) (by show wr.heap.size < wb.heap.size; omega)).trans dwb2
        refine hK.out _ _ ?_ (fun hHeld => ?_)
        · ((try dsimp only); (repeat' apply And.intro); all_goals ((repeat (first | (with_reducible refine cell_drew ?_) | (with_reducible refine cell_drewN _ ?_) | ((with_reducible refine cell_alloc ?_ ?_); · first | omega | (simp; done) | (simp; omega) | assumption) | ((with_reducible refine cell_set ?_ ?_); · first | (intro e; injection e; omega) | (intro e; simp at e; done) | (intro e; simp at e; omega)))); first | assumption | (simp; done)))
        clear hK K
        (try simp only [Act.put, List.setIfInBounds_toArray, List.set_cons_zero, List.set_cons_succ])
        refine reg_on (i := 13) (d := 31) (v := ?rv14) rfl rfl (by kernel_rfl) (by kernel_rfl) (by kernel_rfl) (fun _ _ _ h => h) (by rfl) ?ry14 (by assumption) ?rr14
        case ry14 => (intro wz hSw; (try dsimp only at hSw); go_simp; try with_reducible rfl)
        (try simp only [Act.put, List.setIfInBounds_toArray, List.set_cons_zero, List.set_cons_succ])
        refine reg_on (i := 14) (d := 32) (v := ?rv15) rfl rfl (by kernel_rfl) (by kernel_rfl) (by kernel_rfl) (fun _ _ _ h => h) (by rfl) ?ry15 (by assumption) ?rr15
        case ry15 => (intro wz hSw; (try dsimp only at hSw); go_simp; try with_reducible rfl)
        (try simp only [Act.put, List.setIfInBounds_toArray, List.set_cons_zero, List.set_cons_succ])
        refine reg_on (i := 15) (d := 3) (v := ?rv16) rfl rfl (by kernel_rfl) (by kernel_rfl) (by kernel_rfl) (fun _ _ _ h => h) (by rfl) ?ry16 (by assumption) ?rr16
        case ry16 => (intro wz hSw; (try dsimp only at hSw); go_simp; try with_reducible rfl)
        (try simp only [Act.put, List.setIfInBounds_toArray, List.set_cons_zero, List.set_cons_succ])
        refine wpAnyH_done (by kernel_rfl) ?_ _
        have HBF := Lib.hid hBwc
        clear dwa0 dwa1 dwa2 dwb0 dwb1 dwb2 dwc0 dwc1 dwc2 hbwa hbwb hbwc hBwa hBwb hBwc
        go_wp2
        go_roundw
        case rel => exact ⟨1, by omega, by go_num, by rw [HE.out]; first | rfl | (congr 1; apply ByteArray.ext; simp), HBF.out⟩
        case measure => simp [intOf]; omega
      · have HE := Lib.hid (HE1.out h0)
        clear HE0 HE1
        have h0' : (0 : Int) < k := by omega
        generalize textJ (puL S) k = tk at *
        have hs1 : (tk ++ (⟨#[44]⟩ : ByteArray)).size = tk.size + 1 := by rw [ByteArray.size_append]; rfl
        have hc5 : ¬ 9223372036854775807 < tk.size + 1 + (sa.size + 1 + sb.size + 1 + sc.size) := by omega
        have hc6 : ¬ 9223372036854775807 < tk.size + 1 := by omega
        go_wp2
        refine wp_region_held_drew (S := (fun w' => w'.cell? ⟨wr.heap.size, 0, none⟩ = some (.int .i64 a) ∧ w'.cell? ⟨wr.heap.size, 1, none⟩ = some (.int .i64 b2) ∧ w'.cell? ⟨wr.heap.size, 2, none⟩ = some (.int .i64 b3))) (by kernel_rfl) ?_ (fun hHeld => ?_)
        · ((try dsimp only); (repeat' apply And.intro); all_goals ((repeat (first | (with_reducible refine cell_drew ?_) | (with_reducible refine cell_drewN _ ?_) | ((with_reducible refine cell_alloc ?_ ?_); · first | omega | (simp; done) | (simp; omega) | assumption) | ((with_reducible refine cell_set ?_ ?_); · first | (intro e; injection e; omega) | (intro e; simp at e; done) | (intro e; simp at e; omega)))); first | assumption | (simp; done)))
        refine reg_on (i := 0) (d := 18) (v := ?rv17) rfl rfl (by kernel_rfl) (by kernel_rfl) (by kernel_rfl) (fun _ _ _ h => h) (by rfl) ?ry17 (by assumption) ?rr17
        case ry17 => (intro wz hSw; (try dsimp only at hSw); go_simp; try with_reducible rfl)
        (try simp only [Act.put, List.setIfInBounds_toArray, List.set_cons_zero, List.set_cons_succ])
        refine reg_on (i := 1) (d := 19) (v := ?rv18) rfl rfl (by kernel_rfl) (by kernel_rfl) (by kernel_rfl) (fun _ _ _ h => h) (by rfl) ?ry18 (by assumption) ?rr18
        case ry18 => (intro wz hSw; (try dsimp only at hSw); go_simp; try with_reducible rfl)
        (try simp only [Act.put, List.setIfInBounds_toArray, List.set_cons_zero, List.set_cons_succ])
        refine reg_on (i := 2) (d := 20) (v := ?rv19) rfl rfl (by kernel_rfl) (by kernel_rfl) (by kernel_rfl) (fun _ _ _ h => h) (by rfl) ?ry19 (by assumption) ?rr19
        case ry19 => (intro wz hSw; (try dsimp only at hSw); go_simp; try with_reducible rfl)
        (try simp only [Act.put, List.setIfInBounds_toArray, List.set_cons_zero, List.set_cons_succ])
        refine reg_on (i := 5) (d := 23) (v := ?rv20) rfl rfl (by kernel_rfl) (by kernel_rfl) (by kernel_rfl) (fun _ _ _ h => h) (by rfl) ?ry20 (by assumption) ?rr20
        case ry20 => (intro wz hSw; (try dsimp only at hSw); go_simp; try with_reducible rfl)
        (try simp only [Act.put, List.setIfInBounds_toArray, List.set_cons_zero, List.set_cons_succ])
        refine reg_on (i := 6) (d := 24) (v := ?rv21) rfl rfl (by kernel_rfl) (by kernel_rfl) (by kernel_rfl) (fun _ _ _ h => h) (by rfl) ?ry21 (by assumption) ?rr21
        case ry21 => (intro wz hSw; (try dsimp only at hSw); go_simp; try with_reducible rfl)
        (try simp only [Act.put, List.setIfInBounds_toArray, List.set_cons_zero, List.set_cons_succ])
        refine reg_on (i := 10) (d := 28) (v := ?rv22) rfl rfl (by kernel_rfl) (by kernel_rfl) (by kernel_rfl) (fun _ _ _ h => h) (by rfl) ?ry22 (by assumption) ?rr22
        case ry22 => (intro wz hSw; (try dsimp only at hSw); go_simp; try with_reducible rfl)
        (try simp only [Act.put, List.setIfInBounds_toArray, List.set_cons_zero, List.set_cons_succ])
        refine reg_on (i := 11) (d := 29) (v := ?rv23) rfl rfl (by kernel_rfl) (by kernel_rfl) (by kernel_rfl) (fun _ _ _ h => h) (by rfl) ?ry23 (by assumption) ?rr23
        case ry23 => (intro wz hSw; (try dsimp only at hSw); go_simp; try with_reducible rfl)
        (try simp only [Act.put, List.setIfInBounds_toArray, List.set_cons_zero, List.set_cons_succ])
        refine wpAnyH_ready (rs := [3]) (by kernel_rfl) (by simp) ?_
        refine AllReadyH.cons rfl (fun K hK => ?_) AllReadyH.nil
        go_simp
        go_at_call 47; refine (HX.out _).mono ?_; rintro e wa ⟨rfl, hbwa⟩; have hBwa := bcall (by simp; omega) hbwa HBA.out.drew; have swa := hbwa.size; (try simp at swa); have dwa0 := (hbwa.cell (p := ⟨wr.heap.size, 0, none⟩) (by simp)).trans (show _ = some (Value.int .i64 (a : Int)) by simp [go_sem]); have dwa1 := (hbwa.cell (p := ⟨wr.heap.size, 1, none⟩) (by simp)).trans (show _ = some (Value.int .i64 (b2 : Int)) by simp [go_sem]); have dwa2 := (hbwa.cell (p := ⟨wr.heap.size, 2, none⟩) (by simp)).trans (show _ = some (Value.int .i64 (b3 : Int)) by simp [go_sem])
        refine hK.out _ _ ?_ (fun hHeld => ?_)
        · ((try dsimp only); (repeat' apply And.intro); all_goals ((repeat (first | (with_reducible refine cell_drew ?_) | (with_reducible refine cell_drewN _ ?_) | ((with_reducible refine cell_alloc ?_ ?_); · first | omega | (simp; done) | (simp; omega) | assumption) | ((with_reducible refine cell_set ?_ ?_); · first | (intro e; injection e; omega) | (intro e; simp at e; done) | (intro e; simp at e; omega)))); first | assumption | (simp; done)))
        clear hK K
        (try simp only [Act.put, List.setIfInBounds_toArray, List.set_cons_zero, List.set_cons_succ])
        refine reg_on (i := 4) (d := 22) (v := ?rv25) rfl rfl (by kernel_rfl) (by kernel_rfl) (by kernel_rfl) (fun _ _ _ h => h) (by rfl) ?ry25 (by assumption) ?rr25
        case ry25 => (intro wz hSw; (try dsimp only at hSw); go_simp; try with_reducible rfl)
        (try simp only [Act.put, List.setIfInBounds_toArray, List.set_cons_zero, List.set_cons_succ])
        refine wpAnyH_ready (rs := [7]) (by kernel_rfl) (by simp) ?_
        refine AllReadyH.cons rfl (fun K hK => ?_) AllReadyH.nil
        go_simp
        go_at_call 47; refine (HY.out _).mono ?_; rintro e wb ⟨rfl, hbwb⟩; have hBwb := bcall hBwa.size hbwb hBwa; have swb := hbwb.size; have dwb0 := (hbwb.cell (p := ⟨wr.heap.size, 0, none⟩) (by show wr.heap.size < wa.heap.size; omega)).trans dwa0; have dwb1 := (hbwb.cell (p := ⟨wr.heap.size, 1, none⟩) (by show wr.heap.size < wa.heap.size; omega)).trans dwa1; have dwb2 := (hbwb.cell (p := ⟨wr.heap.size, 2, none⟩) (by show wr.heap.size < wa.heap.size; omega)).trans dwa2
        refine hK.out _ _ ?_ (fun hHeld => ?_)
        · ((try dsimp only); (repeat' apply And.intro); all_goals ((repeat (first | (with_reducible refine cell_drew ?_) | (with_reducible refine cell_drewN _ ?_) | ((with_reducible refine cell_alloc ?_ ?_); · first | omega | (simp; done) | (simp; omega) | assumption) | ((with_reducible refine cell_set ?_ ?_); · first | (intro e; injection e; omega) | (intro e; simp at e; done) | (intro e; simp at e; omega)))); first | assumption | (simp; done)))
        clear hK K
        (try simp only [Act.put, List.setIfInBounds_toArray, List.set_cons_zero, List.set_cons_succ])
        refine reg_on (i := 8) (d := 26) (v := ?rv27) rfl rfl (by kernel_rfl) (by kernel_rfl) (by kernel_rfl) (fun _ _ _ h => h) (by rfl) ?ry27 (by assumption) ?rr27
        case ry27 => (intro wz hSw; (try dsimp only at hSw); go_simp; try with_reducible rfl)
        (try simp only [Act.put, List.setIfInBounds_toArray, List.set_cons_zero, List.set_cons_succ])
        refine reg_on (i := 9) (d := 27) (v := ?rv28) rfl rfl (by kernel_rfl) (by kernel_rfl) (by kernel_rfl) (fun _ _ _ h => h) (by rfl) ?ry28 (by assumption) ?rr28
        case ry28 => (intro wz hSw; (try dsimp only at hSw); go_simp; try with_reducible rfl)
        (try simp only [Act.put, List.setIfInBounds_toArray, List.set_cons_zero, List.set_cons_succ])
        refine wpAnyH_ready (rs := [12]) (by kernel_rfl) (by simp) ?_
        refine AllReadyH.cons rfl (fun K hK => ?_) AllReadyH.nil
        go_simp
        go_at_call 47; refine (HZ.out _).mono ?_; rintro e wc ⟨rfl, hbwc⟩; have hBwc := bcall hBwb.size hbwc hBwb; have swc := hbwc.size; have dwc0 := (hbwc.cell (p := ⟨wr.heap.size, 0, none⟩) (by show wr.heap.size < wb.heap.size; omega)).trans dwb0; have dwc1 := (hbwc.cell (p := ⟨wr.heap.size, 1, none⟩) (by show wr.heap.size < wb.heap.size; omega)).trans dwb1; have dwc2 := (hbwc.cell (p := ⟨wr.heap.size, 2, none⟩) (by show wr.heap.size < wb.heap.size; omega)).trans dwb2
        refine hK.out _ _ ?_ (fun hHeld => ?_)
        · ((try dsimp only); (repeat' apply And.intro); all_goals ((repeat (first | (with_reducible refine cell_drew ?_) | (with_reducible refine cell_drewN _ ?_) | ((with_reducible refine cell_alloc ?_ ?_); · first | omega | (simp; done) | (simp; omega) | assumption) | ((with_reducible refine cell_set ?_ ?_); · first | (intro e; injection e; omega) | (intro e; simp at e; done) | (intro e; simp at e; omega)))); first | assumption | (simp; done)))
        clear hK K
        (try simp only [Act.put, List.setIfInBounds_toArray, List.set_cons_zero, List.set_cons_succ])
        refine reg_on (i := 13) (d := 31) (v := ?rv30) rfl rfl (by kernel_rfl) (by kernel_rfl) (by kernel_rfl) (fun _ _ _ h => h) (by rfl) ?ry30 (by assumption) ?rr30
        case ry30 => (intro wz hSw; (try dsimp only at hSw); go_simp; try with_reducible rfl)
        (try simp only [Act.put, List.setIfInBounds_toArray, List.set_cons_zero, List.set_cons_succ])
        refine reg_on (i := 14) (d := 32) (v := ?rv31) rfl rfl (by kernel_rfl) (by kernel_rfl) (by kernel_rfl) (fun _ _ _ h => h) (by rfl) ?ry31 (by assumption) ?rr31
        case ry31 => (intro wz hSw; (try dsimp only at hSw); go_simp; try with_reducible rfl)
        (try simp only [Act.put, List.setIfInBounds_toArray, List.set_cons_zero, List.set_cons_succ])
        refine reg_on (i := 15) (d := 3) (v := ?rv32) rfl rfl (by kernel_rfl) (by kernel_rfl) (by kernel_rfl) (fun _ _ _ h => h) (by rfl) ?ry32 (by assumption) ?rr32
        case ry32 => (intro wz hSw; (try dsimp only at hSw); go_simp; try with_reducible rfl)
        (try simp only [Act.put, List.setIfInBounds_toArray, List.set_cons_zero, List.set_cons_succ])
        refine wpAnyH_done (by kernel_rfl) ?_ _
        have HBF := Lib.hid hBwc
        clear dwa0 dwa1 dwa2 dwb0 dwb1 dwb2 dwc0 dwc1 dwc2 hbwa hbwb hbwc hBwa hBwb hBwc
        go_wp2
        go_roundw
        case rel => exact ⟨k + 1, by omega, by go_num, by rw [HE.out], HBF.out⟩
        case measure => simp [intOf]; omega
    · have hkn : k = n := by omega
      subst hkn
      go_wp2
      go_ret
      exact ⟨rfl, hB⟩

set_option maxRecDepth 100000 in
set_option maxHeartbeats 1000000 in
theorem sPuzzleText_any (A : Option Addr) (n c : Nat) (S : List Clu) (w : World) (hr : Rd w 3 A n (boxCells S)) (hn : n ≤ 4000000000) :
    Calls Tryd.prog 17 #[puzV A n c] w fun e w' => e = .returned (textV (puR S) (pzB S)) ∧ Below w.heap.size w w' := by
  have HG := Lib.hid (fun wx h => pzGood_any A n c S wx h hn)
  have hll : S.length = n := by have := hr.1; rw [length_boxCells] at this; omega
  have hb0 : Below w.heap.size w (w.alloc (.cells #[.slice A n c] 41)) := (Below.refl _ _).alloc (Nat.le_refl _) _
  have HR0 := Lib.hid (hr.later hb0 (Nat.le_refl _))
  have HB0 := Lib.hid hb0
  cases hB : pzB S
  · rw [show puR S = ⟨#[]⟩ by simp [puR, hB]]
    rw [hB] at HG
    clear hB hll hb0
    go_enter Tryd.func17, Tryd.ntmps17
    go_wp2_with fail
    refine (HG.out _ HR0.out).mono ?_; rintro e w1 ⟨rfl, hb1⟩
    have hB1 := bcall (by simp) hb1 HB0.out
    clear hb1
    go_wp2
    refine bodyPost_ret (v := textV ⟨#[]⟩ false) (by simp [results, Tryd.results17, go_sem]) rfl ⟨rfl, hB1⟩
  · rw [show puR S = textJ (puL S) n by simp [puR, hB, hll]]
    have HT := Lib.hid (fun wx h => pzText_any A n c S wx h hB)
    rw [hB] at HG
    generalize textJ (puL S) n = t at *
    clear hB hll hb0
    go_enter Tryd.func17, Tryd.ntmps17
    go_wp2_with fail
    refine (HG.out _ HR0.out).mono ?_; rintro e w1 ⟨rfl, hb1⟩
    have s1 := hb1.size
    simp at s1
    have d0 : w1.cell? ⟨w.heap.size, 0, none⟩ = some (.slice A n c) := (hb1.cell (p := ⟨w.heap.size, 0, none⟩) (by simp)).trans (by simp [go_sem])
    have HB1 := Lib.hid (bcall (by simp) hb1 HB0.out)
    clear hb1
    go_wp2_with fail
    refine (HT.out _ (hr.later HB1.out (Nat.le_refl _))).mono ?_; rintro e w2 ⟨rfl, hb2⟩
    have hB2 := bcall HB1.out.size hb2 HB1.out
    clear hb2 d0
    go_wp2
    refine bodyPost_ret (v := textV t true) (by simp [results, Tryd.results17, go_sem]) rfl ⟨rfl, hB2⟩
end Go.Proofs.YtghlgmbekgfmnabDoor
