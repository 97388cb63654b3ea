/-
  Words for the richest part; contract: RichestPart of the model.
-/
import Derived.Test.YtbjjpndhfgfedaaPartsW
import Derived.Test.YtbjjpndhfgfedaaInPartS
import Derived.Test.YtbjjpndhfgfedaaSum
import Derived.Test.YtbjjpndhfgfedaaReg
import Derived.Deep.QuietTactic
import Derived.BigQuiet
namespace Go.Proofs.Ytbjjpndhfgfedaa
open Go.RowKit
set_option linter.unusedVariables false

/-- the richer part, the first one of two -/
def stepR (ss : List ByteArray) (s p : Quad) : Quad := if rectQ ss s < rectQ ss p then p else s
/-- the same, as the model tells it -/
def stepM (ss : List ByteArray) (s : Int × Int × Int) (p : Quad) : Int × Int × Int := if s.2.2 < (rectQ ss p : Int) then (p.1, p.2.1, (rectQ ss p : Int)) else s
def outR (ss : List ByteArray) (p : Quad) : Int × Int × Int := (p.1, p.2.1, (rectQ ss p : Int))
theorem fold_out (ss : List ByteArray) : ∀ (L : List Quad) (s : Quad), L.foldl (stepM ss) (outR ss s) = outR ss (L.foldl (stepR ss) s)
  | [], _ => rfl
  | p :: r, s => by
    rw [List.foldl_cons, List.foldl_cons]
    have e : stepM ss (outR ss s) p = outR ss (stepR ss s p) := by
      unfold stepM stepR
      by_cases h : rectQ ss s < rectQ ss p
      · rw [if_pos h, if_pos (by show (rectQ ss s : Int) < rectQ ss p; omega)]; rfl
      · rw [if_neg h, if_neg (by show ¬ (rectQ ss s : Int) < rectQ ss p; omega)]
    rw [e]
    exact fold_out ss r _
theorem rowParts_head (a b y : Nat) : ∀ k, ∃ r, rowParts a b y (k + 1) = ((0 : Int), (y : Int), (a : Int), (b : Int)) :: r
  | 0 => ⟨[], rfl⟩
  | k + 1 => by
    obtain ⟨r, h⟩ := rowParts_head a b y k
    exact ⟨r ++ [(((k + 1 : Nat) : Int), (y : Int), (a : Int), (b : Int))], by rw [rowParts, h]; rfl⟩
theorem sizeParts_head (a b c : Nat) : ∀ k, ∃ r, sizeParts a b (c + 1) (k + 1) = ((0 : Int), (0 : Int), (a : Int), (b : Int)) :: r
  | 0 => by
    obtain ⟨r, h⟩ := rowParts_head a b 0 c
    exact ⟨r, by rw [sizeParts, sizeParts, h]; rfl⟩
  | k + 1 => by
    obtain ⟨r, h⟩ := sizeParts_head a b c k
    exact ⟨r ++ rowParts a b (k + 1) (c + 1), by rw [sizeParts, h]; rfl⟩
/-- the richest part of a size -/
def richQ (ss : List ByteArray) (W H a b : Nat) : Quad := (sizeParts a b (W + 1 - a) (H + 1 - b)).foldl (stepR ss) ((0 : Int), (0 : Int), (a : Int), (b : Int))
theorem fold_model (ss : List ByteArray) {W H a b : Nat} (ha : a ≤ W) (hb : b ≤ H) : (sizeParts a b (W + 1 - a) (H + 1 - b)).foldl (stepM ss) (0, 0, -1) = outR ss (richQ ss W H a b) := by
  obtain ⟨c, hc⟩ : ∃ c, W + 1 - a = c + 1 := ⟨W - a, by omega⟩
  obtain ⟨k, hk⟩ : ∃ k, H + 1 - b = k + 1 := ⟨H - b, by omega⟩
  unfold richQ
  rw [hc, hk]
  obtain ⟨r, h⟩ := sizeParts_head a b c k
  rw [h, List.foldl_cons, List.foldl_cons]
  have e1 : stepM ss (0, 0, -1) ((0 : Int), (0 : Int), (a : Int), (b : Int)) = outR ss ((0 : Int), (0 : Int), (a : Int), (b : Int)) := by
    unfold stepM
    rw [if_pos (by show (-1 : Int) < (rectQ ss _ : Nat); omega)]
    rfl
  have e2 : stepR ss ((0 : Int), (0 : Int), (a : Int), (b : Int)) ((0 : Int), (0 : Int), (a : Int), (b : Int)) = ((0 : Int), (0 : Int), (a : Int), (b : Int)) := by
    unfold stepR
    rw [if_neg (Nat.lt_irrefl _)]
  rw [e1, e2]
  exact fold_out ss r _

def richV (ss : List ByteArray) (a b : Int) : Int × Int × Int := if partOk ss 0 0 a b then outR ss (richQ ss (nutW ss) ss.length a.toNat b.toNat) else (0, 0, 0)
abbrev okT (s : Int × Int × Int) (b : Bool) : Value := .tuple #[.int .i64 s.1, .int .i64 s.2.1, .int .i64 s.2.2, .bool b]
theorem rich_cases {p : Prop} (ss : List ByteArray) (n : Nat) (a b : Int) (hl : ss.length = n)
    (h1 : nutsB ss = false → partOk ss 0 0 a b = false → richV ss a b = (0, 0, 0) → p)
    (h2 : NB ss (nutW ss) n → nutsB ss = true → partB (nutW ss) n 0 0 a b = false → partOk ss 0 0 a b = false → richV ss a b = (0, 0, 0) → p)
    (h3 : ∀ a' b' : Nat, a = a' → b = b' → NB ss (nutW ss) n → nutsB ss = true → partB (nutW ss) n 0 0 a' b' = true → a' ≤ nutW ss → b' ≤ n → 1 ≤ a' → 1 ≤ b' → partOk ss 0 0 a' b' = true → richV ss a' b' = outR ss (richQ ss (nutW ss) n a' b') → p) : p := by
  refine part_cases ss n 0 0 a b hl (fun hB hk _ => h1 hB hk (by simp [richV, hk])) (fun hb hB hP hk _ => h2 hb hB hP hk (by simp [richV, hk])) ?_
  intro X Y a' b' hX hY ha hb hnb hB hP hxa hyb ha1 hb1 hk _
  have X0 : X = 0 := by omega
  have Y0 : Y = 0 := by omega
  subst X0 Y0
  exact h3 a' b' ha hb hnb hB hP (by omega) (by omega) ha1 hb1 hk (by simp only [Int.cast_ofNat_Int] at hk; simp [richV, hk, hl])
theorem part_no0 {W H a b : Int} (h : partB W H 0 0 a b = false) (hB : barB a b = true) (hx : a ≤ W) : H < b := by
  rcases Int.lt_or_le H b with h' | h'
  · exact h'
  · have : partB W H 0 0 a b = true := by simp [partB, hB]; omega
    rw [this] at h
    cases h

set_option maxRecDepth 100000 in
set_option maxHeartbeats 4000000 in
theorem sRp0 (A : Option Addr) (n c : Nat) (ss : List ByteArray) (a b : Int) (w : World) (hr : Rd w 1 A n (strCells ss)) (hB : nutsB ss = false) :
    Calls Try.prog 33 #[.slice A n c, bar2 a b] w fun e w' => e = .returned (okT (0, 0, 0) false) ∧ Below w.heap.size w w' := by
  have hrd : Rd (w.alloc (.cells #[.int .i64 a, .int .i64 b] 37)) 1 _ n (strCells ss) := hr.alloc _
  have c0 : (w.alloc (.cells #[.int .i64 a, .int .i64 b] 37)).cell? ⟨w.heap.size, 0, none⟩ = some (.int .i64 a) := by simp [go_sem]
  have c1 : (w.alloc (.cells #[.int .i64 a, .int .i64 b] 37)).cell? ⟨w.heap.size, 1, none⟩ = some (.int .i64 b) := by simp [go_sem]
  have bw : Below w.heap.size w (w.alloc (.cells #[.int .i64 a, .int .i64 b] 37)) := by (repeat (first | (with_reducible exact Below.refl _ _) | (with_reducible assumption) | (with_reducible refine Below.drew ?_) | ((with_reducible refine balloc ?_ _ ?_); · (first | (simp; done) | (simp; omega) | omega)) | ((with_reducible refine bset ?_ _ ?_); · (first | (simp; done) | (simp; omega) | omega)) | (with_reducible refine bdrewN _ ?_) | ((with_reducible refine bcall ?_ (by assumption) ?_); · (first | (simp; done) | (simp; omega) | omega))))
  go_enter Try.func33, Try.ntmps33
  go_wp2_with fail
  go_quiet ((go_at_call 48; refine Calls.quiet_of_same (((ntGood_any _ _ _ ss _ (by exact hrd)).mono fun e w' h => And.intro (h.1.trans (by rw [hB])) h.2.symm))))
  go_wp2
  refine bodyPost_ret (v := okT (0, 0, 0) false) (by simp [results, Try.results33, go_sem]) rfl ⟨rfl, by (repeat (first | (with_reducible exact Below.refl _ _) | (with_reducible assumption) | (with_reducible refine Below.drew ?_) | ((with_reducible refine balloc ?_ _ ?_); · (first | (simp; done) | (simp; omega) | omega)) | ((with_reducible refine bset ?_ _ ?_); · (first | (simp; done) | (simp; omega) | omega)) | (with_reducible refine bdrewN _ ?_) | ((with_reducible refine bcall ?_ (by assumption) ?_); · (first | (simp; done) | (simp; omega) | omega))))⟩

set_option maxRecDepth 100000 in
set_option maxHeartbeats 4000000 in
theorem sRp1 (B o n c : Nat) (s0 : ByteArray) (ss : List ByteArray) (a b : Int) (w : World) (hr : Rd w 1 (some ⟨B, o, none⟩) n (strCells ss)) (hbl : B < w.heap.size) (p0 : w.cell? ⟨B, o, none⟩ = some (.string s0)) (hB : nutsB ss = true) (hG : barB a b = false) :
    Calls Try.prog 33 #[.slice (some ⟨B, o, none⟩) n c, bar2 a b] w fun e w' => e = .returned (okT (0, 0, 0) false) ∧ Below w.heap.size w w' := by
  have hrd : Rd (w.alloc (.cells #[.int .i64 a, .int .i64 b] 37)) 1 _ n (strCells ss) := hr.alloc _
  have c0 : (w.alloc (.cells #[.int .i64 a, .int .i64 b] 37)).cell? ⟨w.heap.size, 0, none⟩ = some (.int .i64 a) := by simp [go_sem]
  have c1 : (w.alloc (.cells #[.int .i64 a, .int .i64 b] 37)).cell? ⟨w.heap.size, 1, none⟩ = some (.int .i64 b) := by simp [go_sem]
  have bw : Below w.heap.size w (w.alloc (.cells #[.int .i64 a, .int .i64 b] 37)) := by (repeat (first | (with_reducible exact Below.refl _ _) | (with_reducible assumption) | (with_reducible refine Below.drew ?_) | ((with_reducible refine balloc ?_ _ ?_); · (first | (simp; done) | (simp; omega) | omega)) | ((with_reducible refine bset ?_ _ ?_); · (first | (simp; done) | (simp; omega) | omega)) | (with_reducible refine bdrewN _ ?_) | ((with_reducible refine bcall ?_ (by assumption) ?_); · (first | (simp; done) | (simp; omega) | omega))))
  have c2 : (w.alloc (.cells #[.int .i64 a, .int .i64 b] 37)).cell? ⟨B, o, none⟩ = some (.string s0) := (World.cell?_alloc_lt _ _ _ hbl).trans p0
  go_enter Try.func33, Try.ntmps33
  go_wp2_with fail
  refine wp_region_held_drew (S := (fun w' => w'.cell? ⟨w.heap.size, 0, none⟩ = some (.int .i64 a) ∧ w'.cell? ⟨w.heap.size, 1, none⟩ = some (.int .i64 b) ∧ w'.cell? ⟨B, o, none⟩ = some (.string s0))) (by kernel_rfl) ?_ (fun hHeld => ?_)
  · ((try dsimp only); (repeat' apply And.intro); all_goals ((repeat (first | (with_reducible refine cell_drew ?_) | (with_reducible refine cell_drewN _ ?_) | ((with_reducible refine cell_alloc ?_ ?_); · first | omega | (simp; done) | (simp; omega) | assumption) | ((with_reducible refine cell_set ?_ ?_); · first | (intro e; injection e; omega) | (intro e; simp at e; done) | (intro e; simp at e; omega)))); first | assumption | (simp; done)))
  refine reg_on (i := 0) (d := 14) (v := ?rv1) rfl rfl (by kernel_rfl) (by kernel_rfl) (by kernel_rfl) (fun _ _ _ h => h) (by rfl) ?ry1 (by assumption) ?rr1
  case ry1 => (intro wz hSw; (try dsimp only at hSw); go_simp; try with_reducible rfl)
  (try simp only [Act.put, List.setIfInBounds_toArray, List.set_cons_zero, List.set_cons_succ])
  refine wpAnyH_ready (rs := [1]) (by kernel_rfl) (by simp) ?_
  refine AllReadyH.cons rfl (fun K hK => ?_) AllReadyH.nil
  go_simp
  go_at_call 48; refine (ntGood_any _ _ _ ss _ (by exact hrd)).mono ?_; rintro e wx ⟨rfl, rfl⟩; rw [hB]
  refine hK.out _ _ ?_ (fun hHeld => ?_)
  · ((try dsimp only); (repeat' apply And.intro); all_goals ((repeat (first | (with_reducible refine cell_drew ?_) | (with_reducible refine cell_drewN _ ?_) | ((with_reducible refine cell_alloc ?_ ?_); · first | omega | (simp; done) | (simp; omega) | assumption) | ((with_reducible refine cell_set ?_ ?_); · first | (intro e; injection e; omega) | (intro e; simp at e; done) | (intro e; simp at e; omega)))); first | assumption | (simp; done)))
  clear hK K
  (try simp only [Act.put, List.setIfInBounds_toArray, List.set_cons_zero, List.set_cons_succ])
  refine reg_on (i := 2) (d := 16) (v := ?rv3) rfl rfl (by kernel_rfl) (by kernel_rfl) (by kernel_rfl) (fun _ _ _ h => h) (by rfl) ?ry3 (by assumption) ?rr3
  case ry3 => (intro wz hSw; (try dsimp only at hSw); go_simp; try with_reducible rfl)
  (try simp only [Act.put, List.setIfInBounds_toArray, List.set_cons_zero, List.set_cons_succ])
  refine reg_on (i := 3) (d := 17) (v := ?rv4) rfl rfl (by kernel_rfl) (by kernel_rfl) (by kernel_rfl) (fun _ _ _ h => h) (by rfl) ?ry4 (by assumption) ?rr4
  case ry4 => (intro wz hSw; (try dsimp only at hSw); go_simp; try with_reducible rfl)
  (try simp only [Act.put, List.setIfInBounds_toArray, List.set_cons_zero, List.set_cons_succ])
  refine reg_on (i := 4) (d := 18) (v := ?rv5) rfl rfl (by kernel_rfl) (by kernel_rfl) (by kernel_rfl) (fun _ _ _ h => h) (by rfl) ?ry5 (by assumption) ?rr5
  case ry5 => (intro wz hSw; (try dsimp only at hSw); go_simp; try with_reducible rfl)
  (try simp only [Act.put, List.setIfInBounds_toArray, List.set_cons_zero, List.set_cons_succ])
  refine wpAnyH_ready (rs := [5]) (by kernel_rfl) (by simp) ?_
  refine AllReadyH.cons rfl (fun K hK => ?_) AllReadyH.nil
  go_simp
  go_at_call 55; refine (brGood_any _ _ _).mono ?_; rintro e w1 ⟨rfl, hb1⟩; rw [hG]; have s1 := hb1.size; have z1 : w.heap.size < w1.heap.size := (by simp at s1; omega); have k0 : w1.cell? ⟨w.heap.size, 0, none⟩ = some (.int .i64 a) := (hb1.cell (p := ⟨w.heap.size, 0, none⟩) (by first | (simp; done) | (simp; omega) | omega)).trans (by first | assumption | (go_split_ands; assumption)); have k1 : w1.cell? ⟨w.heap.size, 1, none⟩ = some (.int .i64 b) := (hb1.cell (p := ⟨w.heap.size, 1, none⟩) (by first | (simp; done) | (simp; omega) | omega)).trans (by first | assumption | (go_split_ands; assumption)); have k2 : w1.cell? ⟨B, o, none⟩ = some (.string s0) := (hb1.cell (p := ⟨B, o, none⟩) (by first | (simp; done) | (simp; omega) | omega)).trans (by first | assumption | (go_split_ands; assumption))
  refine hK.out _ _ ?_ (fun hHeld => ?_)
  · ((try dsimp only); (repeat' apply And.intro); all_goals ((repeat (first | (with_reducible refine cell_drew ?_) | (with_reducible refine cell_drewN _ ?_) | ((with_reducible refine cell_alloc ?_ ?_); · first | omega | (simp; done) | (simp; omega) | assumption) | ((with_reducible refine cell_set ?_ ?_); · first | (intro e; injection e; omega) | (intro e; simp at e; done) | (intro e; simp at e; omega)))); first | assumption | (simp; done)))
  clear hK K
  (try simp only [Act.put, List.setIfInBounds_toArray, List.set_cons_zero, List.set_cons_succ])
  refine reg_on (i := 6) (d := 20) (v := ?rv7) rfl rfl (by kernel_rfl) (by kernel_rfl) (by kernel_rfl) (fun _ _ _ h => h) (by rfl) ?ry7 (by assumption) ?rr7
  case ry7 => (intro wz hSw; (try dsimp only at hSw); go_simp; try with_reducible rfl)
  (try simp only [Act.put, List.setIfInBounds_toArray, List.set_cons_zero, List.set_cons_succ])
  refine reg_on (i := 7) (d := 21) (v := ?rv8) rfl rfl (by kernel_rfl) (by kernel_rfl) (by kernel_rfl) (fun _ _ _ h => h) (by rfl) ?ry8 (by assumption) ?rr8
  case ry8 => (intro wz hSw; (try dsimp only at hSw); go_simp; try with_reducible rfl)
  (try simp only [Act.put, List.setIfInBounds_toArray, List.set_cons_zero, List.set_cons_succ])
  refine reg_on (i := 8) (d := 22) (v := ?rv9) rfl rfl (by kernel_rfl) (by kernel_rfl) (by kernel_rfl) (fun _ _ _ h => h) (by rfl) ?ry9 (by assumption) ?rr9
  case ry9 => (intro wz hSw; (try dsimp only at hSw); go_simp; try with_reducible rfl)
  (try simp only [Act.put, List.setIfInBounds_toArray, List.set_cons_zero, List.set_cons_succ])
  refine reg_off (i := 9) (d := 23) rfl rfl (by kernel_rfl) (by kernel_rfl) (by kernel_rfl) (fun _ _ _ h => h) (by rfl) (by assumption) ?_; (try simp only [Act.put, List.setIfInBounds_toArray, List.set_cons_zero, List.set_cons_succ])
  refine reg_off (i := 10) (d := 24) rfl rfl (by kernel_rfl) (by kernel_rfl) (by kernel_rfl) (fun _ _ _ h => h) (by rfl) (by assumption) ?_; (try simp only [Act.put, List.setIfInBounds_toArray, List.set_cons_zero, List.set_cons_succ])
  refine reg_off (i := 11) (d := 25) rfl rfl (by kernel_rfl) (by kernel_rfl) (by kernel_rfl) (fun _ _ _ h => h) (by rfl) (by assumption) ?_; (try simp only [Act.put, List.setIfInBounds_toArray, List.set_cons_zero, List.set_cons_succ])
  refine reg_off (i := 12) (d := 26) rfl rfl (by kernel_rfl) (by kernel_rfl) (by kernel_rfl) (fun _ _ _ h => h) (by rfl) (by assumption) ?_; (try simp only [Act.put, List.setIfInBounds_toArray, List.set_cons_zero, List.set_cons_succ])
  refine reg_off (i := 13) (d := 27) rfl rfl (by kernel_rfl) (by kernel_rfl) (by kernel_rfl) (fun _ _ _ h => h) (by rfl) (by assumption) ?_; (try simp only [Act.put, List.setIfInBounds_toArray, List.set_cons_zero, List.set_cons_succ])
  refine reg_off (i := 14) (d := 28) rfl rfl (by kernel_rfl) (by kernel_rfl) (by kernel_rfl) (fun _ _ _ h => h) (by rfl) (by assumption) ?_; (try simp only [Act.put, List.setIfInBounds_toArray, List.set_cons_zero, List.set_cons_succ])
  refine reg_off (i := 15) (d := 29) rfl rfl (by kernel_rfl) (by kernel_rfl) (by kernel_rfl) (fun _ _ _ h => h) (by rfl) (by assumption) ?_; (try simp only [Act.put, List.setIfInBounds_toArray, List.set_cons_zero, List.set_cons_succ])
  refine reg_on (i := 16) (d := 30) (v := ?rv17) rfl rfl (by kernel_rfl) (by kernel_rfl) (by kernel_rfl) (fun _ _ _ h => h) (by rfl) ?ry17 (by assumption) ?rr17
  case ry17 => (intro wz hSw; (try dsimp only at hSw); go_simp; try with_reducible rfl)
  (try simp only [Act.put, List.setIfInBounds_toArray, List.set_cons_zero, List.set_cons_succ])
  refine reg_on (i := 17) (d := 31) (v := ?rv18) rfl rfl (by kernel_rfl) (by kernel_rfl) (by kernel_rfl) (fun _ _ _ h => h) (by rfl) ?ry18 (by assumption) ?rr18
  case ry18 => (intro wz hSw; (try dsimp only at hSw); go_simp; try with_reducible rfl)
  (try simp only [Act.put, List.setIfInBounds_toArray, List.set_cons_zero, List.set_cons_succ])
  refine reg_off (i := 18) (d := 32) rfl rfl (by kernel_rfl) (by kernel_rfl) (by kernel_rfl) (fun _ _ _ h => h) (by rfl) (by assumption) ?_; (try simp only [Act.put, List.setIfInBounds_toArray, List.set_cons_zero, List.set_cons_succ])
  refine reg_off (i := 19) (d := 33) rfl rfl (by kernel_rfl) (by kernel_rfl) (by kernel_rfl) (fun _ _ _ h => h) (by rfl) (by assumption) ?_; (try simp only [Act.put, List.setIfInBounds_toArray, List.set_cons_zero, List.set_cons_succ])
  refine reg_off (i := 20) (d := 34) rfl rfl (by kernel_rfl) (by kernel_rfl) (by kernel_rfl) (fun _ _ _ h => h) (by rfl) (by assumption) ?_; (try simp only [Act.put, List.setIfInBounds_toArray, List.set_cons_zero, List.set_cons_succ])
  refine reg_off (i := 21) (d := 35) rfl rfl (by kernel_rfl) (by kernel_rfl) (by kernel_rfl) (fun _ _ _ h => h) (by rfl) (by assumption) ?_; (try simp only [Act.put, List.setIfInBounds_toArray, List.set_cons_zero, List.set_cons_succ])
  refine reg_off (i := 22) (d := 36) rfl rfl (by kernel_rfl) (by kernel_rfl) (by kernel_rfl) (fun _ _ _ h => h) (by rfl) (by assumption) ?_; (try simp only [Act.put, List.setIfInBounds_toArray, List.set_cons_zero, List.set_cons_succ])
  refine reg_on (i := 23) (d := 37) (v := ?rv24) rfl rfl (by kernel_rfl) (by kernel_rfl) (by kernel_rfl) (fun _ _ _ h => h) (by rfl) ?ry24 (by assumption) ?rr24
  case ry24 => (intro wz hSw; (try dsimp only at hSw); go_simp; try with_reducible rfl)
  (try simp only [Act.put, List.setIfInBounds_toArray, List.set_cons_zero, List.set_cons_succ])
  refine wpAnyH_done (by kernel_rfl) ?_ _
  go_wp2
  refine bodyPost_ret (v := okT (0, 0, 0) false) (by simp [results, Try.results33, go_sem]) rfl ⟨rfl, bcall (by simp) hb1 bw.drew⟩

set_option maxRecDepth 100000 in
set_option maxHeartbeats 4000000 in
theorem sRp2 (B o n c : Nat) (s0 : ByteArray) (ss : List ByteArray) (a b : Int) (w : World) (hr : Rd w 1 (some ⟨B, o, none⟩) n (strCells ss)) (hbl : B < w.heap.size) (p0 : w.cell? ⟨B, o, none⟩ = some (.string s0)) (hB : nutsB ss = true) (hn1 : 1 ≤ n) (hn8 : n ≤ 8) (hz8 : s0.size ≤ 8) (hG : barB a b = true) (hX : (s0.size : Int) < a) :
    Calls Try.prog 33 #[.slice (some ⟨B, o, none⟩) n c, bar2 a b] w fun e w' => e = .returned (okT (0, 0, 0) false) ∧ Below w.heap.size w w' := by
  have q0 : (0 : Int) < (n : Int) := by omega
  have q00 : 0 < n := by omega
  have hX' : decide ((s0.size : Int) < a) = true := decide_eq_true hX
  have hrd : Rd (w.alloc (.cells #[.int .i64 a, .int .i64 b] 37)) 1 _ n (strCells ss) := hr.alloc _
  have c0 : (w.alloc (.cells #[.int .i64 a, .int .i64 b] 37)).cell? ⟨w.heap.size, 0, none⟩ = some (.int .i64 a) := by simp [go_sem]
  have c1 : (w.alloc (.cells #[.int .i64 a, .int .i64 b] 37)).cell? ⟨w.heap.size, 1, none⟩ = some (.int .i64 b) := by simp [go_sem]
  have bw : Below w.heap.size w (w.alloc (.cells #[.int .i64 a, .int .i64 b] 37)) := by (repeat (first | (with_reducible exact Below.refl _ _) | (with_reducible assumption) | (with_reducible refine Below.drew ?_) | ((with_reducible refine balloc ?_ _ ?_); · (first | (simp; done) | (simp; omega) | omega)) | ((with_reducible refine bset ?_ _ ?_); · (first | (simp; done) | (simp; omega) | omega)) | (with_reducible refine bdrewN _ ?_) | ((with_reducible refine bcall ?_ (by assumption) ?_); · (first | (simp; done) | (simp; omega) | omega))))
  have c2 : (w.alloc (.cells #[.int .i64 a, .int .i64 b] 37)).cell? ⟨B, o, none⟩ = some (.string s0) := (World.cell?_alloc_lt _ _ _ hbl).trans p0
  go_enter Try.func33, Try.ntmps33
  go_wp2_with fail
  refine wp_region_held_drew (S := (fun w' => w'.cell? ⟨w.heap.size, 0, none⟩ = some (.int .i64 a) ∧ w'.cell? ⟨w.heap.size, 1, none⟩ = some (.int .i64 b) ∧ w'.cell? ⟨B, o, none⟩ = some (.string s0))) (by kernel_rfl) ?_ (fun hHeld => ?_)
  · ((try dsimp only); (repeat' apply And.intro); all_goals ((repeat (first | (with_reducible refine cell_drew ?_) | (with_reducible refine cell_drewN _ ?_) | ((with_reducible refine cell_alloc ?_ ?_); · first | omega | (simp; done) | (simp; omega) | assumption) | ((with_reducible refine cell_set ?_ ?_); · first | (intro e; injection e; omega) | (intro e; simp at e; done) | (intro e; simp at e; omega)))); first | assumption | (simp; done)))
  refine reg_on (i := 0) (d := 14) (v := ?rv25) rfl rfl (by kernel_rfl) (by kernel_rfl) (by kernel_rfl) (fun _ _ _ h => h) (by rfl) ?ry25 (by assumption) ?rr25
  case ry25 => (intro wz hSw; (try dsimp only at hSw); go_simp; try with_reducible rfl)
  (try simp only [Act.put, List.setIfInBounds_toArray, List.set_cons_zero, List.set_cons_succ])
  refine wpAnyH_ready (rs := [1]) (by kernel_rfl) (by simp) ?_
  refine AllReadyH.cons rfl (fun K hK => ?_) AllReadyH.nil
  go_simp
  go_at_call 48; refine (ntGood_any _ _ _ ss _ (by exact hrd)).mono ?_; rintro e wx ⟨rfl, rfl⟩; rw [hB]
  refine hK.out _ _ ?_ (fun hHeld => ?_)
  · ((try dsimp only); (repeat' apply And.intro); all_goals ((repeat (first | (with_reducible refine cell_drew ?_) | (with_reducible refine cell_drewN _ ?_) | ((with_reducible refine cell_alloc ?_ ?_); · first | omega | (simp; done) | (simp; omega) | assumption) | ((with_reducible refine cell_set ?_ ?_); · first | (intro e; injection e; omega) | (intro e; simp at e; done) | (intro e; simp at e; omega)))); first | assumption | (simp; done)))
  clear hK K
  (try simp only [Act.put, List.setIfInBounds_toArray, List.set_cons_zero, List.set_cons_succ])
  refine reg_on (i := 2) (d := 16) (v := ?rv27) rfl rfl (by kernel_rfl) (by kernel_rfl) (by kernel_rfl) (fun _ _ _ h => h) (by rfl) ?ry27 (by assumption) ?rr27
  case ry27 => (intro wz hSw; (try dsimp only at hSw); go_simp; try with_reducible rfl)
  (try simp only [Act.put, List.setIfInBounds_toArray, List.set_cons_zero, List.set_cons_succ])
  refine reg_on (i := 3) (d := 17) (v := ?rv28) rfl rfl (by kernel_rfl) (by kernel_rfl) (by kernel_rfl) (fun _ _ _ h => h) (by rfl) ?ry28 (by assumption) ?rr28
  case ry28 => (intro wz hSw; (try dsimp only at hSw); go_simp; try with_reducible rfl)
  (try simp only [Act.put, List.setIfInBounds_toArray, List.set_cons_zero, List.set_cons_succ])
  refine reg_on (i := 4) (d := 18) (v := ?rv29) rfl rfl (by kernel_rfl) (by kernel_rfl) (by kernel_rfl) (fun _ _ _ h => h) (by rfl) ?ry29 (by assumption) ?rr29
  case ry29 => (intro wz hSw; (try dsimp only at hSw); go_simp; try with_reducible rfl)
  (try simp only [Act.put, List.setIfInBounds_toArray, List.set_cons_zero, List.set_cons_succ])
  refine wpAnyH_ready (rs := [5]) (by kernel_rfl) (by simp) ?_
  refine AllReadyH.cons rfl (fun K hK => ?_) AllReadyH.nil
  go_simp
  go_at_call 55; refine (brGood_any _ _ _).mono ?_; rintro e w1 ⟨rfl, hb1⟩; rw [hG]; have s1 := hb1.size; have z1 : w.heap.size < w1.heap.size := (by simp at s1; omega); have k0 : w1.cell? ⟨w.heap.size, 0, none⟩ = some (.int .i64 a) := (hb1.cell (p := ⟨w.heap.size, 0, none⟩) (by first | (simp; done) | (simp; omega) | omega)).trans (by first | assumption | (go_split_ands; assumption)); have k1 : w1.cell? ⟨w.heap.size, 1, none⟩ = some (.int .i64 b) := (hb1.cell (p := ⟨w.heap.size, 1, none⟩) (by first | (simp; done) | (simp; omega) | omega)).trans (by first | assumption | (go_split_ands; assumption)); have k2 : w1.cell? ⟨B, o, none⟩ = some (.string s0) := (hb1.cell (p := ⟨B, o, none⟩) (by first | (simp; done) | (simp; omega) | omega)).trans (by first | assumption | (go_split_ands; assumption))
  refine hK.out _ _ ?_ (fun hHeld => ?_)
  · ((try dsimp only); (repeat' apply And.intro); all_goals ((repeat (first | (with_reducible refine cell_drew ?_) | (with_reducible refine cell_drewN _ ?_) | ((with_reducible refine cell_alloc ?_ ?_); · first | omega | (simp; done) | (simp; omega) | assumption) | ((with_reducible refine cell_set ?_ ?_); · first | (intro e; injection e; omega) | (intro e; simp at e; done) | (intro e; simp at e; omega)))); first | assumption | (simp; done)))
  clear hK K
  (try simp only [Act.put, List.setIfInBounds_toArray, List.set_cons_zero, List.set_cons_succ])
  refine reg_on (i := 6) (d := 20) (v := ?rv31) rfl rfl (by kernel_rfl) (by kernel_rfl) (by kernel_rfl) (fun _ _ _ h => h) (by rfl) ?ry31 (by assumption) ?rr31
  case ry31 => (intro wz hSw; (try dsimp only at hSw); go_simp; try with_reducible rfl)
  (try simp only [Act.put, List.setIfInBounds_toArray, List.set_cons_zero, List.set_cons_succ])
  refine reg_on (i := 7) (d := 21) (v := ?rv32) rfl rfl (by kernel_rfl) (by kernel_rfl) (by kernel_rfl) (fun _ _ _ h => h) (by rfl) ?ry32 (by assumption) ?rr32
  case ry32 => (intro wz hSw; (try dsimp only at hSw); go_simp; try with_reducible rfl)
  (try simp only [Act.put, List.setIfInBounds_toArray, List.set_cons_zero, List.set_cons_succ])
  refine reg_on (i := 8) (d := 22) (v := ?rv33) rfl rfl (by kernel_rfl) (by kernel_rfl) (by kernel_rfl) (fun _ _ _ h => h) (by rfl) ?ry33 (by assumption) ?rr33
  case ry33 => (intro wz hSw; (try dsimp only at hSw); go_simp; try with_reducible rfl)
  (try simp only [Act.put, List.setIfInBounds_toArray, List.set_cons_zero, List.set_cons_succ])
  refine reg_on (i := 9) (d := 23) (v := ?rv34) rfl rfl (by kernel_rfl) (by kernel_rfl) (by kernel_rfl) (fun _ _ _ h => h) (by rfl) ?ry34 (by assumption) ?rr34
  case ry34 => (intro wz hSw; (try dsimp only at hSw); go_simp; try with_reducible rfl)
  (try simp only [Act.put, List.setIfInBounds_toArray, List.set_cons_zero, List.set_cons_succ])
  refine reg_on (i := 10) (d := 24) (v := ?rv35) rfl rfl (by kernel_rfl) (by kernel_rfl) (by kernel_rfl) (fun _ _ _ h => h) (by rfl) ?ry35 (by assumption) ?rr35
  case ry35 => (intro wz hSw; (try dsimp only at hSw); go_simp; try with_reducible rfl)
  (try simp only [Act.put, List.setIfInBounds_toArray, List.set_cons_zero, List.set_cons_succ])
  refine reg_on (i := 11) (d := 25) (v := ?rv36) rfl rfl (by kernel_rfl) (by kernel_rfl) (by kernel_rfl) (fun _ _ _ h => h) (by rfl) ?ry36 (by assumption) ?rr36
  case ry36 => (intro wz hSw; (try dsimp only at hSw); go_simp; try with_reducible rfl)
  (try simp only [Act.put, List.setIfInBounds_toArray, List.set_cons_zero, List.set_cons_succ])
  refine reg_on (i := 12) (d := 26) (v := ?rv37) rfl rfl (by kernel_rfl) (by kernel_rfl) (by kernel_rfl) (fun _ _ _ h => h) (by rfl) ?ry37 (by assumption) ?rr37
  case ry37 => (intro wz hSw; (try dsimp only at hSw); go_simp; try with_reducible rfl)
  (try simp only [Act.put, List.setIfInBounds_toArray, List.set_cons_zero, List.set_cons_succ])
  refine reg_on (i := 13) (d := 27) (v := ?rv38) rfl rfl (by kernel_rfl) (by kernel_rfl) (by kernel_rfl) (fun _ _ _ h => h) (by rfl) ?ry38 (by assumption) ?rr38
  case ry38 => (intro wz hSw; (try dsimp only at hSw); go_simp; try with_reducible rfl)
  (try simp only [Act.put, List.setIfInBounds_toArray, List.set_cons_zero, List.set_cons_succ])
  refine reg_on (i := 14) (d := 28) (v := ?rv39) rfl rfl (by kernel_rfl) (by kernel_rfl) (by kernel_rfl) (fun _ _ _ h => h) (by rfl) ?ry39 (by assumption) ?rr39
  case ry39 => (intro wz hSw; (try dsimp only at hSw); go_simp; try with_reducible rfl)
  (try simp only [Act.put, List.setIfInBounds_toArray, List.set_cons_zero, List.set_cons_succ])
  refine reg_on (i := 15) (d := 29) (v := ?rv40) rfl rfl (by kernel_rfl) (by kernel_rfl) (by kernel_rfl) (fun _ _ _ h => h) (by rfl) ?ry40 (by assumption) ?rr40
  case ry40 => (intro wz hSw; (try dsimp only at hSw); go_simp; try with_reducible rfl)
  (try simp only [Act.put, List.setIfInBounds_toArray, List.set_cons_zero, List.set_cons_succ])
  refine reg_on (i := 16) (d := 30) (v := ?rv41) rfl rfl (by kernel_rfl) (by kernel_rfl) (by kernel_rfl) (fun _ _ _ h => h) (by rfl) ?ry41 (by assumption) ?rr41
  case ry41 => (intro wz hSw; (try dsimp only at hSw); go_simp; try with_reducible rfl)
  (try simp only [Act.put, List.setIfInBounds_toArray, List.set_cons_zero, List.set_cons_succ])
  refine reg_on (i := 17) (d := 31) (v := ?rv42) rfl rfl (by kernel_rfl) (by kernel_rfl) (by kernel_rfl) (fun _ _ _ h => h) (by rfl) ?ry42 (by assumption) ?rr42
  case ry42 => (intro wz hSw; (try dsimp only at hSw); go_simp; try with_reducible rfl)
  (try simp only [Act.put, List.setIfInBounds_toArray, List.set_cons_zero, List.set_cons_succ])
  refine reg_off (i := 18) (d := 32) rfl rfl (by kernel_rfl) (by kernel_rfl) (by kernel_rfl) (fun _ _ _ h => h) (by rfl) (by assumption) ?_; (try simp only [Act.put, List.setIfInBounds_toArray, List.set_cons_zero, List.set_cons_succ])
  refine reg_off (i := 19) (d := 33) rfl rfl (by kernel_rfl) (by kernel_rfl) (by kernel_rfl) (fun _ _ _ h => h) (by rfl) (by assumption) ?_; (try simp only [Act.put, List.setIfInBounds_toArray, List.set_cons_zero, List.set_cons_succ])
  refine reg_off (i := 20) (d := 34) rfl rfl (by kernel_rfl) (by kernel_rfl) (by kernel_rfl) (fun _ _ _ h => h) (by rfl) (by assumption) ?_; (try simp only [Act.put, List.setIfInBounds_toArray, List.set_cons_zero, List.set_cons_succ])
  refine reg_off (i := 21) (d := 35) rfl rfl (by kernel_rfl) (by kernel_rfl) (by kernel_rfl) (fun _ _ _ h => h) (by rfl) (by assumption) ?_; (try simp only [Act.put, List.setIfInBounds_toArray, List.set_cons_zero, List.set_cons_succ])
  refine reg_off (i := 22) (d := 36) rfl rfl (by kernel_rfl) (by kernel_rfl) (by kernel_rfl) (fun _ _ _ h => h) (by rfl) (by assumption) ?_; (try simp only [Act.put, List.setIfInBounds_toArray, List.set_cons_zero, List.set_cons_succ])
  refine reg_on (i := 23) (d := 37) (v := ?rv48) rfl rfl (by kernel_rfl) (by kernel_rfl) (by kernel_rfl) (fun _ _ _ h => h) (by rfl) ?ry48 (by assumption) ?rr48
  case ry48 => (intro wz hSw; (try dsimp only at hSw); go_simp; try with_reducible rfl)
  (try simp only [Act.put, List.setIfInBounds_toArray, List.set_cons_zero, List.set_cons_succ])
  refine wpAnyH_done (by kernel_rfl) ?_ _
  go_wp2
  refine bodyPost_ret (v := okT (0, 0, 0) false) (by simp [results, Try.results33, go_sem]) rfl ⟨rfl, bcall (by simp) hb1 bw.drew⟩

set_option maxRecDepth 100000 in
set_option maxHeartbeats 4000000 in
theorem sRp3 (B o n c : Nat) (s0 : ByteArray) (ss : List ByteArray) (a b : Int) (w : World) (hr : Rd w 1 (some ⟨B, o, none⟩) n (strCells ss)) (hbl : B < w.heap.size) (p0 : w.cell? ⟨B, o, none⟩ = some (.string s0)) (hB : nutsB ss = true) (hn1 : 1 ≤ n) (hn8 : n ≤ 8) (hz8 : s0.size ≤ 8) (hG : barB a b = true) (hX : a ≤ (s0.size : Int)) (hY : (n : Int) < b) :
    Calls Try.prog 33 #[.slice (some ⟨B, o, none⟩) n c, bar2 a b] w fun e w' => e = .returned (okT (0, 0, 0) false) ∧ Below w.heap.size w w' := by
  have q0 : (0 : Int) < (n : Int) := by omega
  have q00 : 0 < n := by omega
  have hX' : decide ((s0.size : Int) < a) = false := decide_eq_false (by omega)
  have hY' : decide ((n : Int) < b) = true := decide_eq_true hY
  have hrd : Rd (w.alloc (.cells #[.int .i64 a, .int .i64 b] 37)) 1 _ n (strCells ss) := hr.alloc _
  have c0 : (w.alloc (.cells #[.int .i64 a, .int .i64 b] 37)).cell? ⟨w.heap.size, 0, none⟩ = some (.int .i64 a) := by simp [go_sem]
  have c1 : (w.alloc (.cells #[.int .i64 a, .int .i64 b] 37)).cell? ⟨w.heap.size, 1, none⟩ = some (.int .i64 b) := by simp [go_sem]
  have bw : Below w.heap.size w (w.alloc (.cells #[.int .i64 a, .int .i64 b] 37)) := by (repeat (first | (with_reducible exact Below.refl _ _) | (with_reducible assumption) | (with_reducible refine Below.drew ?_) | ((with_reducible refine balloc ?_ _ ?_); · (first | (simp; done) | (simp; omega) | omega)) | ((with_reducible refine bset ?_ _ ?_); · (first | (simp; done) | (simp; omega) | omega)) | (with_reducible refine bdrewN _ ?_) | ((with_reducible refine bcall ?_ (by assumption) ?_); · (first | (simp; done) | (simp; omega) | omega))))
  have c2 : (w.alloc (.cells #[.int .i64 a, .int .i64 b] 37)).cell? ⟨B, o, none⟩ = some (.string s0) := (World.cell?_alloc_lt _ _ _ hbl).trans p0
  go_enter Try.func33, Try.ntmps33
  go_wp2_with fail
  refine wp_region_held_drew (S := (fun w' => w'.cell? ⟨w.heap.size, 0, none⟩ = some (.int .i64 a) ∧ w'.cell? ⟨w.heap.size, 1, none⟩ = some (.int .i64 b) ∧ w'.cell? ⟨B, o, none⟩ = some (.string s0))) (by kernel_rfl) ?_ (fun hHeld => ?_)
  · ((try dsimp only); (repeat' apply And.intro); all_goals ((repeat (first | (with_reducible refine cell_drew ?_) | (with_reducible refine cell_drewN _ ?_) | ((with_reducible refine cell_alloc ?_ ?_); · first | omega | (simp; done) | (simp; omega) | assumption) | ((with_reducible refine cell_set ?_ ?_); · first | (intro e; injection e; omega) | (intro e; simp at e; done) | (intro e; simp at e; omega)))); first | assumption | (simp; done)))
  refine reg_on (i := 0) (d := 14) (v := ?rv49) rfl rfl (by kernel_rfl) (by kernel_rfl) (by kernel_rfl) (fun _ _ _ h => h) (by rfl) ?ry49 (by assumption) ?rr49
  case ry49 => (intro wz hSw; (try dsimp only at hSw); go_simp; try with_reducible rfl)
  (try simp only [Act.put, List.setIfInBounds_toArray, List.set_cons_zero, List.set_cons_succ])
  refine wpAnyH_ready (rs := [1]) (by kernel_rfl) (by simp) ?_
  refine AllReadyH.cons rfl (fun K hK => ?_) AllReadyH.nil
  go_simp
  go_at_call 48; refine (ntGood_any _ _ _ ss _ (by exact hrd)).mono ?_; rintro e wx ⟨rfl, rfl⟩; rw [hB]
  refine hK.out _ _ ?_ (fun hHeld => ?_)
  · ((try dsimp only); (repeat' apply And.intro); all_goals ((repeat (first | (with_reducible refine cell_drew ?_) | (with_reducible refine cell_drewN _ ?_) | ((with_reducible refine cell_alloc ?_ ?_); · first | omega | (simp; done) | (simp; omega) | assumption) | ((with_reducible refine cell_set ?_ ?_); · first | (intro e; injection e; omega) | (intro e; simp at e; done) | (intro e; simp at e; omega)))); first | assumption | (simp; done)))
  clear hK K
  (try simp only [Act.put, List.setIfInBounds_toArray, List.set_cons_zero, List.set_cons_succ])
  refine reg_on (i := 2) (d := 16) (v := ?rv51) rfl rfl (by kernel_rfl) (by kernel_rfl) (by kernel_rfl) (fun _ _ _ h => h) (by rfl) ?ry51 (by assumption) ?rr51
  case ry51 => (intro wz hSw; (try dsimp only at hSw); go_simp; try with_reducible rfl)
  (try simp only [Act.put, List.setIfInBounds_toArray, List.set_cons_zero, List.set_cons_succ])
  refine reg_on (i := 3) (d := 17) (v := ?rv52) rfl rfl (by kernel_rfl) (by kernel_rfl) (by kernel_rfl) (fun _ _ _ h => h) (by rfl) ?ry52 (by assumption) ?rr52
  case ry52 => (intro wz hSw; (try dsimp only at hSw); go_simp; try with_reducible rfl)
  (try simp only [Act.put, List.setIfInBounds_toArray, List.set_cons_zero, List.set_cons_succ])
  refine reg_on (i := 4) (d := 18) (v := ?rv53) rfl rfl (by kernel_rfl) (by kernel_rfl) (by kernel_rfl) (fun _ _ _ h => h) (by rfl) ?ry53 (by assumption) ?rr53
  case ry53 => (intro wz hSw; (try dsimp only at hSw); go_simp; try with_reducible rfl)
  (try simp only [Act.put, List.setIfInBounds_toArray, List.set_cons_zero, List.set_cons_succ])
  refine wpAnyH_ready (rs := [5]) (by kernel_rfl) (by simp) ?_
  refine AllReadyH.cons rfl (fun K hK => ?_) AllReadyH.nil
  go_simp
  go_at_call 55; refine (brGood_any _ _ _).mono ?_; rintro e w1 ⟨rfl, hb1⟩; rw [hG]; have s1 := hb1.size; have z1 : w.heap.size < w1.heap.size := (by simp at s1; omega); have k0 : w1.cell? ⟨w.heap.size, 0, none⟩ = some (.int .i64 a) := (hb1.cell (p := ⟨w.heap.size, 0, none⟩) (by first | (simp; done) | (simp; omega) | omega)).trans (by first | assumption | (go_split_ands; assumption)); have k1 : w1.cell? ⟨w.heap.size, 1, none⟩ = some (.int .i64 b) := (hb1.cell (p := ⟨w.heap.size, 1, none⟩) (by first | (simp; done) | (simp; omega) | omega)).trans (by first | assumption | (go_split_ands; assumption)); have k2 : w1.cell? ⟨B, o, none⟩ = some (.string s0) := (hb1.cell (p := ⟨B, o, none⟩) (by first | (simp; done) | (simp; omega) | omega)).trans (by first | assumption | (go_split_ands; assumption))
  refine hK.out _ _ ?_ (fun hHeld => ?_)
  · ((try dsimp only); (repeat' apply And.intro); all_goals ((repeat (first | (with_reducible refine cell_drew ?_) | (with_reducible refine cell_drewN _ ?_) | ((with_reducible refine cell_alloc ?_ ?_); · first | omega | (simp; done) | (simp; omega) | assumption) | ((with_reducible refine cell_set ?_ ?_); · first | (intro e; injection e; omega) | (intro e; simp at e; done) | (intro e; simp at e; omega)))); first | assumption | (simp; done)))
  clear hK K
  (try simp only [Act.put, List.setIfInBounds_toArray, List.set_cons_zero, List.set_cons_succ])
  refine reg_on (i := 6) (d := 20) (v := ?rv55) rfl rfl (by kernel_rfl) (by kernel_rfl) (by kernel_rfl) (fun _ _ _ h => h) (by rfl) ?ry55 (by assumption) ?rr55
  case ry55 => (intro wz hSw; (try dsimp only at hSw); go_simp; try with_reducible rfl)
  (try simp only [Act.put, List.setIfInBounds_toArray, List.set_cons_zero, List.set_cons_succ])
  refine reg_on (i := 7) (d := 21) (v := ?rv56) rfl rfl (by kernel_rfl) (by kernel_rfl) (by kernel_rfl) (fun _ _ _ h => h) (by rfl) ?ry56 (by assumption) ?rr56
  case ry56 => (intro wz hSw; (try dsimp only at hSw); go_simp; try with_reducible rfl)
  (try simp only [Act.put, List.setIfInBounds_toArray, List.set_cons_zero, List.set_cons_succ])
  refine reg_on (i := 8) (d := 22) (v := ?rv57) rfl rfl (by kernel_rfl) (by kernel_rfl) (by kernel_rfl) (fun _ _ _ h => h) (by rfl) ?ry57 (by assumption) ?rr57
  case ry57 => (intro wz hSw; (try dsimp only at hSw); go_simp; try with_reducible rfl)
  (try simp only [Act.put, List.setIfInBounds_toArray, List.set_cons_zero, List.set_cons_succ])
  refine reg_on (i := 9) (d := 23) (v := ?rv58) rfl rfl (by kernel_rfl) (by kernel_rfl) (by kernel_rfl) (fun _ _ _ h => h) (by rfl) ?ry58 (by assumption) ?rr58
  case ry58 => (intro wz hSw; (try dsimp only at hSw); go_simp; try with_reducible rfl)
  (try simp only [Act.put, List.setIfInBounds_toArray, List.set_cons_zero, List.set_cons_succ])
  refine reg_on (i := 10) (d := 24) (v := ?rv59) rfl rfl (by kernel_rfl) (by kernel_rfl) (by kernel_rfl) (fun _ _ _ h => h) (by rfl) ?ry59 (by assumption) ?rr59
  case ry59 => (intro wz hSw; (try dsimp only at hSw); go_simp; try with_reducible rfl)
  (try simp only [Act.put, List.setIfInBounds_toArray, List.set_cons_zero, List.set_cons_succ])
  refine reg_on (i := 11) (d := 25) (v := ?rv60) rfl rfl (by kernel_rfl) (by kernel_rfl) (by kernel_rfl) (fun _ _ _ h => h) (by rfl) ?ry60 (by assumption) ?rr60
  case ry60 => (intro wz hSw; (try dsimp only at hSw); go_simp; try with_reducible rfl)
  (try simp only [Act.put, List.setIfInBounds_toArray, List.set_cons_zero, List.set_cons_succ])
  refine reg_on (i := 12) (d := 26) (v := ?rv61) rfl rfl (by kernel_rfl) (by kernel_rfl) (by kernel_rfl) (fun _ _ _ h => h) (by rfl) ?ry61 (by assumption) ?rr61
  case ry61 => (intro wz hSw; (try dsimp only at hSw); go_simp; try with_reducible rfl)
  (try simp only [Act.put, List.setIfInBounds_toArray, List.set_cons_zero, List.set_cons_succ])
  refine reg_on (i := 13) (d := 27) (v := ?rv62) rfl rfl (by kernel_rfl) (by kernel_rfl) (by kernel_rfl) (fun _ _ _ h => h) (by rfl) ?ry62 (by assumption) ?rr62
  case ry62 => (intro wz hSw; (try dsimp only at hSw); go_simp; try with_reducible rfl)
  (try simp only [Act.put, List.setIfInBounds_toArray, List.set_cons_zero, List.set_cons_succ])
  refine reg_on (i := 14) (d := 28) (v := ?rv63) rfl rfl (by kernel_rfl) (by kernel_rfl) (by kernel_rfl) (fun _ _ _ h => h) (by rfl) ?ry63 (by assumption) ?rr63
  case ry63 => (intro wz hSw; (try dsimp only at hSw); go_simp; try with_reducible rfl)
  (try simp only [Act.put, List.setIfInBounds_toArray, List.set_cons_zero, List.set_cons_succ])
  refine reg_on (i := 15) (d := 29) (v := ?rv64) rfl rfl (by kernel_rfl) (by kernel_rfl) (by kernel_rfl) (fun _ _ _ h => h) (by rfl) ?ry64 (by assumption) ?rr64
  case ry64 => (intro wz hSw; (try dsimp only at hSw); go_simp; try with_reducible rfl)
  (try simp only [Act.put, List.setIfInBounds_toArray, List.set_cons_zero, List.set_cons_succ])
  refine reg_on (i := 16) (d := 30) (v := ?rv65) rfl rfl (by kernel_rfl) (by kernel_rfl) (by kernel_rfl) (fun _ _ _ h => h) (by rfl) ?ry65 (by assumption) ?rr65
  case ry65 => (intro wz hSw; (try dsimp only at hSw); go_simp; try with_reducible rfl)
  (try simp only [Act.put, List.setIfInBounds_toArray, List.set_cons_zero, List.set_cons_succ])
  refine reg_on (i := 17) (d := 31) (v := ?rv66) rfl rfl (by kernel_rfl) (by kernel_rfl) (by kernel_rfl) (fun _ _ _ h => h) (by rfl) ?ry66 (by assumption) ?rr66
  case ry66 => (intro wz hSw; (try dsimp only at hSw); go_simp; try with_reducible rfl)
  (try simp only [Act.put, List.setIfInBounds_toArray, List.set_cons_zero, List.set_cons_succ])
  refine reg_on (i := 18) (d := 32) (v := ?rv67) rfl rfl (by kernel_rfl) (by kernel_rfl) (by kernel_rfl) (fun _ _ _ h => h) (by rfl) ?ry67 (by assumption) ?rr67
  case ry67 => (intro wz hSw; (try dsimp only at hSw); go_simp; try with_reducible rfl)
  (try simp only [Act.put, List.setIfInBounds_toArray, List.set_cons_zero, List.set_cons_succ])
  refine reg_on (i := 19) (d := 33) (v := ?rv68) rfl rfl (by kernel_rfl) (by kernel_rfl) (by kernel_rfl) (fun _ _ _ h => h) (by rfl) ?ry68 (by assumption) ?rr68
  case ry68 => (intro wz hSw; (try dsimp only at hSw); go_simp; try with_reducible rfl)
  (try simp only [Act.put, List.setIfInBounds_toArray, List.set_cons_zero, List.set_cons_succ])
  refine reg_on (i := 20) (d := 34) (v := ?rv69) rfl rfl (by kernel_rfl) (by kernel_rfl) (by kernel_rfl) (fun _ _ _ h => h) (by rfl) ?ry69 (by assumption) ?rr69
  case ry69 => (intro wz hSw; (try dsimp only at hSw); go_simp; try with_reducible rfl)
  (try simp only [Act.put, List.setIfInBounds_toArray, List.set_cons_zero, List.set_cons_succ])
  refine reg_on (i := 21) (d := 35) (v := ?rv70) rfl rfl (by kernel_rfl) (by kernel_rfl) (by kernel_rfl) (fun _ _ _ h => h) (by rfl) ?ry70 (by assumption) ?rr70
  case ry70 => (intro wz hSw; (try dsimp only at hSw); go_simp; try with_reducible rfl)
  (try simp only [Act.put, List.setIfInBounds_toArray, List.set_cons_zero, List.set_cons_succ])
  refine reg_on (i := 22) (d := 36) (v := ?rv71) rfl rfl (by kernel_rfl) (by kernel_rfl) (by kernel_rfl) (fun _ _ _ h => h) (by rfl) ?ry71 (by assumption) ?rr71
  case ry71 => (intro wz hSw; (try dsimp only at hSw); go_simp; try with_reducible rfl)
  (try simp only [Act.put, List.setIfInBounds_toArray, List.set_cons_zero, List.set_cons_succ])
  refine reg_on (i := 23) (d := 37) (v := ?rv72) rfl rfl (by kernel_rfl) (by kernel_rfl) (by kernel_rfl) (fun _ _ _ h => h) (by rfl) ?ry72 (by assumption) ?rr72
  case ry72 => (intro wz hSw; (try dsimp only at hSw); go_simp; try with_reducible rfl)
  (try simp only [Act.put, List.setIfInBounds_toArray, List.set_cons_zero, List.set_cons_succ])
  refine wpAnyH_done (by kernel_rfl) ?_ _
  go_wp2
  refine bodyPost_ret (v := okT (0, 0, 0) false) (by simp [results, Try.results33, go_sem]) rfl ⟨rfl, bcall (by simp) hb1 bw.drew⟩

set_option maxRecDepth 100000 in
set_option maxHeartbeats 4000000 in
theorem sRp4 (B o n c : Nat) (s0 : ByteArray) (ss : List ByteArray) (a b : Int) (w : World) (hr : Rd w 1 (some ⟨B, o, none⟩) n (strCells ss)) (hbl : B < w.heap.size) (p0 : w.cell? ⟨B, o, none⟩ = some (.string s0)) (hB : nutsB ss = true) (hn1 : 1 ≤ n) (hn8 : n ≤ 8) (hz8 : s0.size ≤ 8) (hb : NB ss s0.size n) (a' b' : Nat) (ha : a = a') (hbb : b = b') (ha1 : 1 ≤ a') (hb1' : 1 ≤ b') (hxa : a' ≤ s0.size) (hyb : b' ≤ n) (hG : barB a b = true) :
    Calls Try.prog 33 #[.slice (some ⟨B, o, none⟩) n c, bar2 a b] w fun e w' => e = .returned (okT (outR ss (richQ ss s0.size n a' b')) true) ∧ Below w.heap.size w w' := by
  have q0 : (0 : Int) < (n : Int) := by omega
  have q00 : 0 < n := by omega
  have hX' : decide ((s0.size : Int) < a) = false := decide_eq_false (by omega)
  have hY' : decide ((n : Int) < b) = false := decide_eq_false (by omega)
  have HF := Lib.hid (fold_model ss hxa hyb)
  have HE := Lib.hid (And.intro ha hbb)
  clear ha hbb
  have hnt := fun (wx : World) hr (X Y : Nat) h1 h2 => ntSum_any (some ⟨B, o, none⟩) n c s0.size ss X Y ((X : Int) + a') ((Y : Int) + b') X Y a' b' wx hr hb rfl rfl rfl rfl h1 h2
  have HNT := Lib.hid hnt
  clear hnt
  have hrd : Rd (w.alloc (.cells #[.int .i64 a, .int .i64 b] 37)) 1 _ n (strCells ss) := hr.alloc _
  have c0 : (w.alloc (.cells #[.int .i64 a, .int .i64 b] 37)).cell? ⟨w.heap.size, 0, none⟩ = some (.int .i64 a) := by simp [go_sem]
  have c1 : (w.alloc (.cells #[.int .i64 a, .int .i64 b] 37)).cell? ⟨w.heap.size, 1, none⟩ = some (.int .i64 b) := by simp [go_sem]
  have bw : Below w.heap.size w (w.alloc (.cells #[.int .i64 a, .int .i64 b] 37)) := by (repeat (first | (with_reducible exact Below.refl _ _) | (with_reducible assumption) | (with_reducible refine Below.drew ?_) | ((with_reducible refine balloc ?_ _ ?_); · (first | (simp; done) | (simp; omega) | omega)) | ((with_reducible refine bset ?_ _ ?_); · (first | (simp; done) | (simp; omega) | omega)) | (with_reducible refine bdrewN _ ?_) | ((with_reducible refine bcall ?_ (by assumption) ?_); · (first | (simp; done) | (simp; omega) | omega))))
  have c2 : (w.alloc (.cells #[.int .i64 a, .int .i64 b] 37)).cell? ⟨B, o, none⟩ = some (.string s0) := (World.cell?_alloc_lt _ _ _ hbl).trans p0
  go_enter Try.func33, Try.ntmps33
  go_wp2_with fail
  refine wp_region_held_drew (S := (fun w' => w'.cell? ⟨w.heap.size, 0, none⟩ = some (.int .i64 a) ∧ w'.cell? ⟨w.heap.size, 1, none⟩ = some (.int .i64 b) ∧ w'.cell? ⟨B, o, none⟩ = some (.string s0))) (by kernel_rfl) ?_ (fun hHeld => ?_)
  · ((try dsimp only); (repeat' apply And.intro); all_goals ((repeat (first | (with_reducible refine cell_drew ?_) | (with_reducible refine cell_drewN _ ?_) | ((with_reducible refine cell_alloc ?_ ?_); · first | omega | (simp; done) | (simp; omega) | assumption) | ((with_reducible refine cell_set ?_ ?_); · first | (intro e; injection e; omega) | (intro e; simp at e; done) | (intro e; simp at e; omega)))); first | assumption | (simp; done)))
  refine reg_on (i := 0) (d := 14) (v := ?rv73) rfl rfl (by kernel_rfl) (by kernel_rfl) (by kernel_rfl) (fun _ _ _ h => h) (by rfl) ?ry73 (by assumption) ?rr73
  case ry73 => (intro wz hSw; (try dsimp only at hSw); go_simp; try with_reducible rfl)
  (try simp only [Act.put, List.setIfInBounds_toArray, List.set_cons_zero, List.set_cons_succ])
  refine wpAnyH_ready (rs := [1]) (by kernel_rfl) (by simp) ?_
  refine AllReadyH.cons rfl (fun K hK => ?_) AllReadyH.nil
  go_simp
  go_at_call 48; refine (ntGood_any _ _ _ ss _ (by exact hrd)).mono ?_; rintro e wx ⟨rfl, rfl⟩; rw [hB]
  refine hK.out _ _ ?_ (fun hHeld => ?_)
  · ((try dsimp only); (repeat' apply And.intro); all_goals ((repeat (first | (with_reducible refine cell_drew ?_) | (with_reducible refine cell_drewN _ ?_) | ((with_reducible refine cell_alloc ?_ ?_); · first | omega | (simp; done) | (simp; omega) | assumption) | ((with_reducible refine cell_set ?_ ?_); · first | (intro e; injection e; omega) | (intro e; simp at e; done) | (intro e; simp at e; omega)))); first | assumption | (simp; done)))
  clear hK K
  (try simp only [Act.put, List.setIfInBounds_toArray, List.set_cons_zero, List.set_cons_succ])
  refine reg_on (i := 2) (d := 16) (v := ?rv75) rfl rfl (by kernel_rfl) (by kernel_rfl) (by kernel_rfl) (fun _ _ _ h => h) (by rfl) ?ry75 (by assumption) ?rr75
  case ry75 => (intro wz hSw; (try dsimp only at hSw); go_simp; try with_reducible rfl)
  (try simp only [Act.put, List.setIfInBounds_toArray, List.set_cons_zero, List.set_cons_succ])
  refine reg_on (i := 3) (d := 17) (v := ?rv76) rfl rfl (by kernel_rfl) (by kernel_rfl) (by kernel_rfl) (fun _ _ _ h => h) (by rfl) ?ry76 (by assumption) ?rr76
  case ry76 => (intro wz hSw; (try dsimp only at hSw); go_simp; try with_reducible rfl)
  (try simp only [Act.put, List.setIfInBounds_toArray, List.set_cons_zero, List.set_cons_succ])
  refine reg_on (i := 4) (d := 18) (v := ?rv77) rfl rfl (by kernel_rfl) (by kernel_rfl) (by kernel_rfl) (fun _ _ _ h => h) (by rfl) ?ry77 (by assumption) ?rr77
  case ry77 => (intro wz hSw; (try dsimp only at hSw); go_simp; try with_reducible rfl)
  (try simp only [Act.put, List.setIfInBounds_toArray, List.set_cons_zero, List.set_cons_succ])
  refine wpAnyH_ready (rs := [5]) (by kernel_rfl) (by simp) ?_
  refine AllReadyH.cons rfl (fun K hK => ?_) AllReadyH.nil
  go_simp
  go_at_call 55; refine (brGood_any _ _ _).mono ?_; rintro e w1 ⟨rfl, hb1⟩; rw [hG]; have s1 := hb1.size; have z1 : w.heap.size < w1.heap.size := (by simp at s1; omega); have k0 : w1.cell? ⟨w.heap.size, 0, none⟩ = some (.int .i64 a) := (hb1.cell (p := ⟨w.heap.size, 0, none⟩) (by first | (simp; done) | (simp; omega) | omega)).trans (by first | assumption | (go_split_ands; assumption)); have k1 : w1.cell? ⟨w.heap.size, 1, none⟩ = some (.int .i64 b) := (hb1.cell (p := ⟨w.heap.size, 1, none⟩) (by first | (simp; done) | (simp; omega) | omega)).trans (by first | assumption | (go_split_ands; assumption)); have k2 : w1.cell? ⟨B, o, none⟩ = some (.string s0) := (hb1.cell (p := ⟨B, o, none⟩) (by first | (simp; done) | (simp; omega) | omega)).trans (by first | assumption | (go_split_ands; assumption))
  refine hK.out _ _ ?_ (fun hHeld => ?_)
  · ((try dsimp only); (repeat' apply And.intro); all_goals ((repeat (first | (with_reducible refine cell_drew ?_) | (with_reducible refine cell_drewN _ ?_) | ((with_reducible refine cell_alloc ?_ ?_); · first | omega | (simp; done) | (simp; omega) | assumption) | ((with_reducible refine cell_set ?_ ?_); · first | (intro e; injection e; omega) | (intro e; simp at e; done) | (intro e; simp at e; omega)))); first | assumption | (simp; done)))
  clear hK K
  (try simp only [Act.put, List.setIfInBounds_toArray, List.set_cons_zero, List.set_cons_succ])
  refine reg_on (i := 6) (d := 20) (v := ?rv79) rfl rfl (by kernel_rfl) (by kernel_rfl) (by kernel_rfl) (fun _ _ _ h => h) (by rfl) ?ry79 (by assumption) ?rr79
  case ry79 => (intro wz hSw; (try dsimp only at hSw); go_simp; try with_reducible rfl)
  (try simp only [Act.put, List.setIfInBounds_toArray, List.set_cons_zero, List.set_cons_succ])
  refine reg_on (i := 7) (d := 21) (v := ?rv80) rfl rfl (by kernel_rfl) (by kernel_rfl) (by kernel_rfl) (fun _ _ _ h => h) (by rfl) ?ry80 (by assumption) ?rr80
  case ry80 => (intro wz hSw; (try dsimp only at hSw); go_simp; try with_reducible rfl)
  (try simp only [Act.put, List.setIfInBounds_toArray, List.set_cons_zero, List.set_cons_succ])
  refine reg_on (i := 8) (d := 22) (v := ?rv81) rfl rfl (by kernel_rfl) (by kernel_rfl) (by kernel_rfl) (fun _ _ _ h => h) (by rfl) ?ry81 (by assumption) ?rr81
  case ry81 => (intro wz hSw; (try dsimp only at hSw); go_simp; try with_reducible rfl)
  (try simp only [Act.put, List.setIfInBounds_toArray, List.set_cons_zero, List.set_cons_succ])
  refine reg_on (i := 9) (d := 23) (v := ?rv82) rfl rfl (by kernel_rfl) (by kernel_rfl) (by kernel_rfl) (fun _ _ _ h => h) (by rfl) ?ry82 (by assumption) ?rr82
  case ry82 => (intro wz hSw; (try dsimp only at hSw); go_simp; try with_reducible rfl)
  (try simp only [Act.put, List.setIfInBounds_toArray, List.set_cons_zero, List.set_cons_succ])
  refine reg_on (i := 10) (d := 24) (v := ?rv83) rfl rfl (by kernel_rfl) (by kernel_rfl) (by kernel_rfl) (fun _ _ _ h => h) (by rfl) ?ry83 (by assumption) ?rr83
  case ry83 => (intro wz hSw; (try dsimp only at hSw); go_simp; try with_reducible rfl)
  (try simp only [Act.put, List.setIfInBounds_toArray, List.set_cons_zero, List.set_cons_succ])
  refine reg_on (i := 11) (d := 25) (v := ?rv84) rfl rfl (by kernel_rfl) (by kernel_rfl) (by kernel_rfl) (fun _ _ _ h => h) (by rfl) ?ry84 (by assumption) ?rr84
  case ry84 => (intro wz hSw; (try dsimp only at hSw); go_simp; try with_reducible rfl)
  (try simp only [Act.put, List.setIfInBounds_toArray, List.set_cons_zero, List.set_cons_succ])
  refine reg_on (i := 12) (d := 26) (v := ?rv85) rfl rfl (by kernel_rfl) (by kernel_rfl) (by kernel_rfl) (fun _ _ _ h => h) (by rfl) ?ry85 (by assumption) ?rr85
  case ry85 => (intro wz hSw; (try dsimp only at hSw); go_simp; try with_reducible rfl)
  (try simp only [Act.put, List.setIfInBounds_toArray, List.set_cons_zero, List.set_cons_succ])
  refine reg_on (i := 13) (d := 27) (v := ?rv86) rfl rfl (by kernel_rfl) (by kernel_rfl) (by kernel_rfl) (fun _ _ _ h => h) (by rfl) ?ry86 (by assumption) ?rr86
  case ry86 => (intro wz hSw; (try dsimp only at hSw); go_simp; try with_reducible rfl)
  (try simp only [Act.put, List.setIfInBounds_toArray, List.set_cons_zero, List.set_cons_succ])
  refine reg_on (i := 14) (d := 28) (v := ?rv87) rfl rfl (by kernel_rfl) (by kernel_rfl) (by kernel_rfl) (fun _ _ _ h => h) (by rfl) ?ry87 (by assumption) ?rr87
  case ry87 => (intro wz hSw; (try dsimp only at hSw); go_simp; try with_reducible rfl)
  (try simp only [Act.put, List.setIfInBounds_toArray, List.set_cons_zero, List.set_cons_succ])
  refine reg_on (i := 15) (d := 29) (v := ?rv88) rfl rfl (by kernel_rfl) (by kernel_rfl) (by kernel_rfl) (fun _ _ _ h => h) (by rfl) ?ry88 (by assumption) ?rr88
  case ry88 => (intro wz hSw; (try dsimp only at hSw); go_simp; try with_reducible rfl)
  (try simp only [Act.put, List.setIfInBounds_toArray, List.set_cons_zero, List.set_cons_succ])
  refine reg_on (i := 16) (d := 30) (v := ?rv89) rfl rfl (by kernel_rfl) (by kernel_rfl) (by kernel_rfl) (fun _ _ _ h => h) (by rfl) ?ry89 (by assumption) ?rr89
  case ry89 => (intro wz hSw; (try dsimp only at hSw); go_simp; try with_reducible rfl)
  (try simp only [Act.put, List.setIfInBounds_toArray, List.set_cons_zero, List.set_cons_succ])
  refine reg_on (i := 17) (d := 31) (v := ?rv90) rfl rfl (by kernel_rfl) (by kernel_rfl) (by kernel_rfl) (fun _ _ _ h => h) (by rfl) ?ry90 (by assumption) ?rr90
  case ry90 => (intro wz hSw; (try dsimp only at hSw); go_simp; try with_reducible rfl)
  (try simp only [Act.put, List.setIfInBounds_toArray, List.set_cons_zero, List.set_cons_succ])
  refine reg_on (i := 18) (d := 32) (v := ?rv91) rfl rfl (by kernel_rfl) (by kernel_rfl) (by kernel_rfl) (fun _ _ _ h => h) (by rfl) ?ry91 (by assumption) ?rr91
  case ry91 => (intro wz hSw; (try dsimp only at hSw); go_simp; try with_reducible rfl)
  (try simp only [Act.put, List.setIfInBounds_toArray, List.set_cons_zero, List.set_cons_succ])
  refine reg_on (i := 19) (d := 33) (v := ?rv92) rfl rfl (by kernel_rfl) (by kernel_rfl) (by kernel_rfl) (fun _ _ _ h => h) (by rfl) ?ry92 (by assumption) ?rr92
  case ry92 => (intro wz hSw; (try dsimp only at hSw); go_simp; try with_reducible rfl)
  (try simp only [Act.put, List.setIfInBounds_toArray, List.set_cons_zero, List.set_cons_succ])
  refine reg_on (i := 20) (d := 34) (v := ?rv93) rfl rfl (by kernel_rfl) (by kernel_rfl) (by kernel_rfl) (fun _ _ _ h => h) (by rfl) ?ry93 (by assumption) ?rr93
  case ry93 => (intro wz hSw; (try dsimp only at hSw); go_simp; try with_reducible rfl)
  (try simp only [Act.put, List.setIfInBounds_toArray, List.set_cons_zero, List.set_cons_succ])
  refine reg_on (i := 21) (d := 35) (v := ?rv94) rfl rfl (by kernel_rfl) (by kernel_rfl) (by kernel_rfl) (fun _ _ _ h => h) (by rfl) ?ry94 (by assumption) ?rr94
  case ry94 => (intro wz hSw; (try dsimp only at hSw); go_simp; try with_reducible rfl)
  (try simp only [Act.put, List.setIfInBounds_toArray, List.set_cons_zero, List.set_cons_succ])
  refine reg_on (i := 22) (d := 36) (v := ?rv95) rfl rfl (by kernel_rfl) (by kernel_rfl) (by kernel_rfl) (fun _ _ _ h => h) (by rfl) ?ry95 (by assumption) ?rr95
  case ry95 => (intro wz hSw; (try dsimp only at hSw); go_simp; try with_reducible rfl)
  (try simp only [Act.put, List.setIfInBounds_toArray, List.set_cons_zero, List.set_cons_succ])
  refine reg_on (i := 23) (d := 37) (v := ?rv96) rfl rfl (by kernel_rfl) (by kernel_rfl) (by kernel_rfl) (fun _ _ _ h => h) (by rfl) ?ry96 (by assumption) ?rr96
  case ry96 => (intro wz hSw; (try dsimp only at hSw); go_simp; try with_reducible rfl)
  (try simp only [Act.put, List.setIfInBounds_toArray, List.set_cons_zero, List.set_cons_succ])
  refine wpAnyH_done (by kernel_rfl) ?_ _
  have bw1 := bcall (by simp) hb1 bw.drew
  have hr1 := hr.later bw1 (Nat.le_refl _)
  clear hrd c0 c1 c2 bw hb1
  obtain ⟨rfl, rfl⟩ := HE.out
  clear hX' hY' HE
  have K0 := Lib.hid k0
  have K1 := Lib.hid k1
  have K2 := Lib.hid k2
  clear k0 k1 k2
  go_wp2
  go_loopw [8, 9, 10, 11] (fun bx by' mo yy wr => ∃ y : Nat, y ≤ n + 1 - b' ∧ yy = .int .i64 y ∧ bx = .int .i64 ((sizeParts a' b' (s0.size + 1 - a') y).foldl (stepM ss) (0, 0, -1)).1 ∧ by' = .int .i64 ((sizeParts a' b' (s0.size + 1 - a') y).foldl (stepM ss) (0, 0, -1)).2.1 ∧ mo = .int .i64 ((sizeParts a' b' (s0.size + 1 - a') y).foldl (stepM ss) (0, 0, -1)).2.2 ∧ Below w1.heap.size w1 wr) (fun _ _ _ yy _ => n + 1 - (intOf yy).toNat)
  case atStart => exact ⟨0, Nat.zero_le _, rfl, rfl, rfl, rfl, Below.refl _ _⟩
  case round =>
    obtain ⟨y, hy, rfl, rfl, rfl, rfl, hBl⟩ := hrel
    have k0 := (hBl.cell (p := ⟨w.heap.size, 0, none⟩) z1).trans K0.out
    have k1 := (hBl.cell (p := ⟨w.heap.size, 1, none⟩) z1).trans K1.out
    by_cases hlt : y < n + 1 - b'
    · have hle : (y : Int) + b' ≤ (n : Int) := by omega
      have HR : Hid ((sizeParts a' b' (s0.size + 1 - a') (y + 1)).foldl (stepM ss) (0, 0, -1) = (rowParts a' b' y (s0.size + 1 - a')).foldl (stepM ss) ((sizeParts a' b' (s0.size + 1 - a') y).foldl (stepM ss) (0, 0, -1))) := List.foldl_append
      have HBl := Lib.hid hBl
      clear hBl
      go_wp2
      clear k0 k1
      generalize (sizeParts a' b' (s0.size + 1 - a') y).foldl (stepM ss) (0, 0, -1) = st at *
      go_loopw [8, 9, 10, 12] (fun bx by' mo xx wr => ∃ x : Nat, x ≤ s0.size + 1 - a' ∧ xx = .int .i64 x ∧ bx = .int .i64 ((rowParts a' b' y x).foldl (stepM ss) st).1 ∧ by' = .int .i64 ((rowParts a' b' y x).foldl (stepM ss) st).2.1 ∧ mo = .int .i64 ((rowParts a' b' y x).foldl (stepM ss) st).2.2 ∧ Below w1.heap.size w1 wr) (fun _ _ _ xx _ => s0.size + 1 - (intOf xx).toNat)
      case atStart => exact ⟨0, Nat.zero_le _, rfl, rfl, rfl, rfl, HBl.out⟩
      case round =>
        clear HBl
        obtain ⟨x, hx, rfl, rfl, rfl, rfl, hBl⟩ := hrel
        have k0 := (hBl.cell (p := ⟨w.heap.size, 0, none⟩) z1).trans K0.out
        have k1 := (hBl.cell (p := ⟨w.heap.size, 1, none⟩) z1).trans K1.out
        have k2 := (hBl.cell (p := ⟨B, o, none⟩) (by show B < w1.heap.size; omega)).trans K2.out
        by_cases hlx : x < s0.size + 1 - a'
        · have hlex : (x : Int) + a' ≤ (s0.size : Int) := by omega
          have HS : Hid ((rowParts a' b' y (x + 1)).foldl (stepM ss) st = stepM ss ((rowParts a' b' y x).foldl (stepM ss) st) ((x : Int), (y : Int), (a' : Int), (b' : Int))) := by
            simp only [Hid, rowParts, List.foldl_append, List.foldl_cons, List.foldl_nil]
          have HNTx := Lib.hid (fun wx (hb' : Below w1.heap.size w1 wx) => HNT.out wx (hr1.later hb' (Nat.le_refl _)) x y (by omega) (by omega))
          have HQ : Hid (rectQ ss ((x : Int), (y : Int), (a' : Int), (b' : Int)) = rect ss x y a' b') := rfl
          generalize (rowParts a' b' y x).foldl (stepM ss) st = st2 at *
          obtain ⟨u, v, m⟩ := st2
          generalize rect ss x y a' b' = r at *
          have HBl := Lib.hid hBl
          clear hBl
          by_cases hgt : m < (r : Int)
          · have hgt' : decide (m < (r : Int)) = true := decide_eq_true hgt
            have HM : Hid (stepM ss (u, v, m) ((x : Int), (y : Int), (a' : Int), (b' : Int)) = ((x : Int), (y : Int), (r : Int))) := by
              simp only [Hid, stepM, HQ.out]
              rw [if_pos hgt]
            clear hgt
            go_wp2
            go_quiet (fail)
            go_wp2_with fail
            have hBd : Below w1.heap.size w1 (wr.drewN nq) := bdrewN _ HBl.out
            clear k0 k1 k2
            refine (HNTx.out _ hBd).mono ?_; rintro e wx ⟨rfl, rfl⟩
            go_wp2
            go_roundw
            case rel => exact ⟨x + 1, by omega, by go_num, by rw [HS.out, HM.out], by rw [HS.out, HM.out], by rw [HS.out, HM.out], hBd⟩
            case measure => simp [intOf]; omega
          · have hgt' : decide (m < (r : Int)) = false := decide_eq_false hgt
            have HM : Hid (stepM ss (u, v, m) ((x : Int), (y : Int), (a' : Int), (b' : Int)) = (u, v, m)) := by
              simp only [Hid, stepM, HQ.out]
              rw [if_neg hgt]
            clear hgt
            go_wp2
            go_quiet (fail)
            go_wp2_with fail
            have hBd : Below w1.heap.size w1 (wr.drewN nq) := bdrewN _ HBl.out
            clear k0 k1 k2
            refine (HNTx.out _ hBd).mono ?_; rintro e wx ⟨rfl, rfl⟩
            go_wp2
            go_roundw
            case rel => exact ⟨x + 1, by omega, by go_num, by rw [HS.out, HM.out], by rw [HS.out, HM.out], by rw [HS.out, HM.out], hBd⟩
            case measure => simp [intOf]; omega
        · have hxe : x = s0.size + 1 - a' := by omega
          subst hxe
          have HBl := Lib.hid hBl
          clear hBl
          go_wp2
          go_quiet (fail)
          go_wp2
          go_roundw
          case rel => exact ⟨y + 1, by omega, by go_num, by rw [HR.out], by rw [HR.out], by rw [HR.out], bdrewN _ HBl.out⟩
          case measure => simp [intOf]; omega
    · have hye : y = n + 1 - b' := by omega
      subst hye
      go_wp2
      refine bodyPost_ret (v := okT (outR ss (richQ ss s0.size n a' b')) true) (by rw [← HF.out]; simp [results, Try.results33, go_sem]) rfl ⟨rfl, bcall (by omega) hBl bw1⟩

theorem sRichestPart_any (A : Option Addr) (n c : Nat) (ss : List ByteArray) (a b : Int) (w : World) (hr : Rd w 1 A n (strCells ss)) :
    Calls Try.prog 33 #[.slice A n c, bar2 a b] w fun e w' => e = .returned (okT (richV ss a b) (partOk ss 0 0 a b)) ∧ Below w.heap.size w w' := by
  refine rich_cases ss n a b hr.slen ?_ ?_ ?_
  · intro hB hk hv
    rw [hk, hv]
    exact sRp0 A n c ss a b w hr hB
  · intro hb hB hP hk hv
    rw [hk, hv]
    generalize nutW ss = W at *
    obtain ⟨B, o, rfl, hbl, s0, p0, hs0, hd0⟩ := hr.nut0 hb
    have hs := hs0.out
    subst hs
    cases hG : barB a b
    · exact sRp1 B o n c s0 ss a b w hr hbl p0 hB hG
    · rcases Int.lt_or_le (s0.size : Int) a with hX | hX
      · exact sRp2 B o n c s0 ss a b w hr hbl p0 hB hb.h1 hb.h8 hb.w8 hG hX
      · exact sRp3 B o n c s0 ss a b w hr hbl p0 hB hb.h1 hb.h8 hb.w8 hG hX (part_no0 hP hG hX)
  · rintro a' b' rfl rfl hb hB hP hxa hyb ha1 hb1' hk hv
    rw [hk, hv]
    generalize nutW ss = W at *
    obtain ⟨B, o, rfl, hbl, s0, p0, hs0, hd0⟩ := hr.nut0 hb
    have hs := hs0.out
    subst hs
    have h8 := hb.w8
    have n8 := hb.h8
    have hG : barB a' b' = true := by simp [barB]; omega
    exact sRp4 B o n c s0 ss _ _ w hr hbl p0 hB hb.h1 n8 h8 hb a' b' rfl rfl ha1 hb1' hxa hyb hG

end Go.Proofs.Ytbjjpndhfgfedaa
