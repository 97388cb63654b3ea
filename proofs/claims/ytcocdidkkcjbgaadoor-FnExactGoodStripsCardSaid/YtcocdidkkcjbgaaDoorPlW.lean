/-
  Words: the greatest and the least of numbers; the longest and the shortest play with a strip. Contracts: slices.Max, slices.Min, movesOfPair.
-/
import Derived.Test.YtcocdidkkcjbgaaDoorSv
namespace Go.Proofs.YtcocdidkkcjbgaaDoor
open Go.RowKit
set_option linter.unusedVariables false
set_option linter.unusedSimpArgs false

def maxL : List Int → Int
  | [] => 0
  | a :: r => r.foldl max a
def minL : List Int → Int
  | [] => 0
  | a :: r => r.foldl min a
theorem maxL_snoc {L : List Int} (h : L ≠ []) (x : Int) : maxL (L ++ [x]) = max (maxL L) x := by
  match L, h with
  | a :: r, _ => simp [maxL, List.foldl_append]
theorem minL_snoc {L : List Int} (h : L ≠ []) (x : Int) : minL (L ++ [x]) = min (minL L) x := by
  match L, h with
  | a :: r, _ => simp [minL, List.foldl_append]
theorem foldmax_mem : ∀ (r : List Int) (a : Int), r.foldl max a ∈ a :: r
  | [], a => by simp
  | b :: r, a => by
    simp only [List.foldl_cons]
    have h := foldmax_mem r (max a b)
    rcases List.mem_cons.1 h with e | e
    · rcases (show max a b = a ∨ max a b = b by omega) with q | q
      · rw [e, q]; simp
      · rw [e, q]; simp
    · simp [e]
theorem foldmin_mem : ∀ (r : List Int) (a : Int), r.foldl min a ∈ a :: r
  | [], a => by simp
  | b :: r, a => by
    simp only [List.foldl_cons]
    have h := foldmin_mem r (min a b)
    rcases List.mem_cons.1 h with e | e
    · rcases (show min a b = a ∨ min a b = b by omega) with q | q
      · rw [e, q]; simp
      · rw [e, q]; simp
    · simp [e]
theorem maxL_mem {L : List Int} (h : L ≠ []) : maxL L ∈ L := by
  match L, h with
  | a :: r, _ => exact foldmax_mem r a
theorem minL_mem {L : List Int} (h : L ≠ []) : minL L ∈ L := by
  match L, h with
  | a :: r, _ => exact foldmin_mem r a

def mvP (a b : Int) : Int := 1 + a + b
theorem play_in {ch : List Int → Int} {l : Int} {u : Bool} (h0 : ch [] = 0) (hm : ∀ L, L ≠ [] → ch L ∈ L) : ∀ (f n : Nat), 0 ≤ svF mvP ch l u f n ∧ svF mvP ch l u f n ≤ (n : Int) ∧ (1 ≤ n → svF mvP ch l u f n ≤ (n : Int) - 1)
  | 0, n => by simp [svF]; omega
  | f + 1, n => by
    simp only [svF]
    by_cases he : pairsL mvP l u (svF mvP ch l u f) n = []
    · rw [he, h0]; omega
    · have hmem := hm _ he
      generalize ch (pairsL mvP l u (svF mvP ch l u f) n) = v at *
      unfold pairsL at hmem
      obtain ⟨t, ht, rfl⟩ := List.mem_map.1 hmem
      have hin := smL_in ht
      obtain ⟨a1, a2, a3⟩ := play_in (l := l) (u := u) h0 hm f t.toNat
      obtain ⟨b1, b2, b3⟩ := play_in (l := l) (u := u) h0 hm f (n - t.toNat)
      have a4 := a3 (by omega)
      have b4 := b3 (by omega)
      rw [show ∀ a b, mvP a b = 1 + a + b from fun _ _ => rfl]
      omega
abbrev lS (l : Int) (u : Bool) (n : Nat) : Int := sV mvP maxL l u n
abbrev hS (l : Int) (u : Bool) (n : Nat) : Int := sV mvP minL l u n
theorem lS_in {l : Int} {u : Bool} {n : Nat} (h : n ≤ 60) : 0 ≤ lS l u n ∧ lS l u n ≤ 60 := by
  obtain ⟨a, b, _⟩ := play_in (ch := maxL) (l := l) (u := u) rfl (fun L h => maxL_mem h) 61 n
  exact ⟨a, by show svF mvP maxL l u 61 n ≤ 60; omega⟩
theorem hS_in {l : Int} {u : Bool} {n : Nat} (h : n ≤ 60) : 0 ≤ hS l u n ∧ hS l u n ≤ 60 := by
  obtain ⟨a, b, _⟩ := play_in (ch := minL) (l := l) (u := u) rfl (fun L h => minL_mem h) 61 n
  exact ⟨a, by show svF mvP minL l u 61 n ≤ 60; omega⟩
theorem lS_0 (l : Int) (u : Bool) : lS l u 0 = 0 := by
  show sV mvP maxL l u 0 = 0
  rw [sV_eq (by omega), pairsL, smT_short (by simp)]
  rfl
theorem hS_0 (l : Int) (u : Bool) : hS l u 0 = 0 := by
  show sV mvP minL l u 0 = 0
  rw [sV_eq (by omega), pairsL, smT_short (by simp)]
  rfl


set_option maxRecDepth 100000 in
set_option maxHeartbeats 2000000 in
theorem slMax_any (A : Option Addr) (n c : Nat) (L : List Int) (w : World) (hr : Rd w 1 A n (intCells L)) (h1 : 1 ≤ n) (hn : n ≤ 1000000) :
    Calls Tryd.prog 37 #[.slice A n c] w fun e w' => e = .returned (.int .i64 (maxL L)) ∧ w = w' := by
  have HLL := Lib.hid hr.ilen
  have t1 : decide ((n : Int) < 1) = false := decide_eq_false (by omega)
  obtain ⟨b0, o0, hA0, _, hx0, p0⟩ := hr.num (show 0 < n by omega)
  subst hA0
  have HF : Hid (maxL (L.take 1) = L[0]) := by
    rw [Hid, List.take_succ_eq_append_getElem hx0]; simp [maxL]
  have HST : Hid (∀ k (hk : k < L.length), 1 ≤ k → maxL (L.take (k + 1)) = max (maxL (L.take k)) L[k]) := fun k hk h => by
    rw [List.take_succ_eq_append_getElem hk]
    exact maxL_snoc (List.ne_nil_of_length_pos (by rw [List.length_take]; omega)) _
  have hn0 : (0 : Int) < (n : Int) := by omega
  have hn0n : 0 < n := by omega
  simp only [Nat.add_zero] at p0
  generalize L[0] = f0 at *
  clear hx0
  go_enter Tryd.func37, Tryd.ntmps37
  go_wp2
  go_loop [3, 4] (fun m i => ∃ k : Nat, 1 ≤ k ∧ k ≤ n ∧ i = .int .i64 k ∧ m = .int .i64 (maxL (L.take k))) (fun _ i => n - (intOf i).toNat)
  case atStart => exact ⟨1, Nat.le_refl _, h1, rfl, by rw [HF.out]⟩
  case round =>
    obtain ⟨k, hk1, hk, rfl, rfl⟩ := hrel
    by_cases hlt : k < n
    · obtain ⟨b1, o1, e1, _, hx, p1⟩ := hr.num hlt
      simp only [Option.some.injEq, Addr.mk.injEq, and_true] at e1
      obtain ⟨rfl, rfl⟩ := e1
      have HS := Lib.hid (HST.out k hx hk1)
      generalize maxL (L.take k) = m at *
      generalize L[k] = z at *
      go_wp2
      go_round
      case rel => exact ⟨k + 1, by omega, by omega, by go_num, by rw [HS.out]; first | rfl | (congr 1; split <;> omega)⟩
      case measure => simp [intOf]; omega
    · obtain rfl : k = n := by omega
      go_wp2
      go_ret
      exact ⟨ret_int (by rw [List.take_of_length_le (by rw [HLL.out]; exact Nat.le_refl _)]), rfl⟩


end Go.Proofs.YtcocdidkkcjbgaaDoor
