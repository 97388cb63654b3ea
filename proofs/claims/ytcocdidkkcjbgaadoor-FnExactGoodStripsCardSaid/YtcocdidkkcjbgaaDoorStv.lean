/-
  Contracts: StripValue, LostStrips of the program and of the model. Condition: where the program has laid its errors.
-/
import Derived.Test.YtcocdidkkcjbgaaDoorNos
namespace Go.Proofs.YtcocdidkkcjbgaaDoor
open Go.RowKit
set_option linter.unusedVariables false
set_option linter.unusedSimpArgs false

/-- the values up to N, as an array of the program's -/
abbrev vA (l : Int) (u : Bool) (N : Nat) : Array Value := arrN fun j => if j < N + 1 then vS l u j else 0

set_option maxRecDepth 100000 in
set_option maxHeartbeats 4000000 in
theorem stripValues_any (N : Nat) (l : Int) (u : Bool) (a0 : Addr) (w : World) (hL : LaidE w a0) (h1 : 1 ≤ N) (h2 : N ≤ 60) (h3 : 1 ≤ l) (h4 : l ≤ 60) :
    Calls Tryd.prog 36 #[.int .i64 N, rul l u] w fun e w' => e = .returned (.agg (vA l u N)) ∧ Below w.heap.size w w' := by
  have hng := hL.2.2
  have zc : zcN = arrN (fun _ => 0) := zcN_arr
  have w2b : Below w.heap.size w ((w.alloc (.cells #[.int .i64 l, .bool u] 61)).alloc (.cells zcN 63)) := by (repeat (first | (with_reducible exact Below.refl _ _) | (with_reducible assumption) | (with_reducible refine Below.drew ?_) | ((with_reducible refine balloc ?_ _ ?_); · (first | (simp; done) | (simp; omega) | omega)) | ((with_reducible refine bset ?_ _ ?_); · (first | (simp; done) | (simp; omega) | omega)) | (with_reducible refine bdrewN _ ?_) | ((with_reducible refine bcall ?_ (by assumption) ?_); · (first | (simp; done) | (simp; omega) | omega))))
  have c1 : ((w.alloc (.cells #[.int .i64 l, .bool u] 61)).alloc (.cells zcN 63)).cell? ⟨w.heap.size, 0, none⟩ = some (.int .i64 l) := by rw [World.cell?_alloc_lt _ _ _ (by simp)]; simp [go_sem]
  have c2 : ((w.alloc (.cells #[.int .i64 l, .bool u] 61)).alloc (.cells zcN 63)).cell? ⟨w.heap.size, 1, none⟩ = some (.bool u) := by rw [World.cell?_alloc_lt _ _ _ (by simp)]; simp [go_sem]
  have r1 : RowN ((w.alloc (.cells #[.int .i64 l, .bool u] 61)).alloc (.cells zcN 63)) (w.heap.size + 1) (fun _ => 0) := by
    rw [zc]
    have h := RowN.new (w.alloc (.cells #[.int .i64 l, .bool u] 61)) (fun _ => 0)
    rwa [show (w.alloc (.cells #[.int .i64 l, .bool u] 61)).heap.size = w.heap.size + 1 by simp] at h
  have sz0 : ((w.alloc (.cells #[.int .i64 l, .bool u] 61)).alloc (.cells zcN 63)).heap.size = w.heap.size + 2 := by simp
  have C1 := Lib.hid c1
  have C2 := Lib.hid c2
  have R1 := Lib.hid r1
  have SZ0 := Lib.hid sz0
  have HL0 := Lib.hid (hL.later w2b hng (by rw [sz0]; omega))
  clear r1 sz0 zc hL
  have hzf := fun wx => zeroN wx
  have hze := zcN_ne
  go_enter Tryd.func36, Tryd.ntmps36
  go_wp2_with fail
  refine (nosV_any N l u a0 _ HL0.out h1 h2 h3 h4).mono ?_; rintro e w3 ⟨rfl, hb3⟩
  have h3' : w.heap.size + 2 ≤ w3.heap.size := by have := hb3.size; rw [SZ0.out] at this; exact this
  have hrow := R1.out.below hb3 (by rw [SZ0.out]; omega)
  have HSET := Lib.hid (setRow_heap w3 (w.heap.size + 1) _ (vA l u N) _ _ hrow)
  have HBR := Lib.hid (below_setRowN (w2b.trans (hb3.mono (by rw [SZ0.out]; omega))) (show w.heap.size ≤ w.heap.size + 1 by omega) (vA l u N))
  have H1 := Lib.hid hrow
  clear hrow hb3 c1 c2 hzf hze
  go_wp2_with (refine wpList_store_row rfl 63 (.tmp 4) (.tmp 7) rfl (w.heap.size + 1) (vA l u N) rfl rfl _ _ H1.out (by rw [size_arrN]; kernel_rfl) (by rw [size_arrN, size_arrN]) (oneCell_arrN _) ?_)
  refine bodyPost_ret (v := .agg (vA l u N)) (results_cell_row Tryd.results36 _ _ (w.heap.size + 1) _ _ _ _ rfl HSET.out Tryd.underlying63 rfl (by rw [size_arrN]; kernel_rfl)) rfl ⟨rfl, HBR.out⟩

theorem idxN (f : Nat → Int) (w : World) : ∀ k : Nat, k < 61 → (Instr.index 63 (.agg (arrN f)) (.int .i64 k)).run Tryd.prog w = .ok (.int .i64 (f k)) w
  | 0, _ => by kernel_rfl
  | 1, _ => by kernel_rfl
  | 2, _ => by kernel_rfl
  | 3, _ => by kernel_rfl
  | 4, _ => by kernel_rfl
  | 5, _ => by kernel_rfl
  | 6, _ => by kernel_rfl
  | 7, _ => by kernel_rfl
  | 8, _ => by kernel_rfl
  | 9, _ => by kernel_rfl
  | 10, _ => by kernel_rfl
  | 11, _ => by kernel_rfl
  | 12, _ => by kernel_rfl
  | 13, _ => by kernel_rfl
  | 14, _ => by kernel_rfl
  | 15, _ => by kernel_rfl
  | 16, _ => by kernel_rfl
  | 17, _ => by kernel_rfl
  | 18, _ => by kernel_rfl
  | 19, _ => by kernel_rfl
  | 20, _ => by kernel_rfl
  | 21, _ => by kernel_rfl
  | 22, _ => by kernel_rfl
  | 23, _ => by kernel_rfl
  | 24, _ => by kernel_rfl
  | 25, _ => by kernel_rfl
  | 26, _ => by kernel_rfl
  | 27, _ => by kernel_rfl
  | 28, _ => by kernel_rfl
  | 29, _ => by kernel_rfl
  | 30, _ => by kernel_rfl
  | 31, _ => by kernel_rfl
  | 32, _ => by kernel_rfl
  | 33, _ => by kernel_rfl
  | 34, _ => by kernel_rfl
  | 35, _ => by kernel_rfl
  | 36, _ => by kernel_rfl
  | 37, _ => by kernel_rfl
  | 38, _ => by kernel_rfl
  | 39, _ => by kernel_rfl
  | 40, _ => by kernel_rfl
  | 41, _ => by kernel_rfl
  | 42, _ => by kernel_rfl
  | 43, _ => by kernel_rfl
  | 44, _ => by kernel_rfl
  | 45, _ => by kernel_rfl
  | 46, _ => by kernel_rfl
  | 47, _ => by kernel_rfl
  | 48, _ => by kernel_rfl
  | 49, _ => by kernel_rfl
  | 50, _ => by kernel_rfl
  | 51, _ => by kernel_rfl
  | 52, _ => by kernel_rfl
  | 53, _ => by kernel_rfl
  | 54, _ => by kernel_rfl
  | 55, _ => by kernel_rfl
  | 56, _ => by kernel_rfl
  | 57, _ => by kernel_rfl
  | 58, _ => by kernel_rfl
  | 59, _ => by kernel_rfl
  | 60, _ => by kernel_rfl
  | k + 61, h => absurd h (by omega)

def svN (long l : Int) (u : Bool) : Int := if okS long l then vS l u long.toNat else 0
theorem svN_no {long l : Int} {u : Bool} (h : okS long l = false) : svN long l u = 0 := by simp [svN, h]
theorem svN_yes {N : Nat} {l : Int} {u : Bool} (h : okS N l = true) : svN N l u = vS l u N := by simp [svN, h]



/-- the lost lengths up to k -/
def losT (l : Int) (u : Bool) : Nat → List Int
  | 0 => []
  | k + 1 => losT l u k ++ (if vS l u (k + 1) = 0 then [((k : Int) + 1)] else [])
def losR (most l : Int) (u : Bool) : List Int := if okS most l then losT l u most.toNat else []
theorem losT_yes {l : Int} {u : Bool} {k : Nat} (h : vS l u (k + 1) = 0) : losT l u (k + 1) = losT l u k ++ [((k : Int) + 1)] := by rw [losT, if_pos h]
theorem losT_no {l : Int} {u : Bool} {k : Nat} (h : ¬ vS l u (k + 1) = 0) : losT l u (k + 1) = losT l u k := by rw [losT, if_neg h, List.append_nil]
theorem length_losT (l : Int) (u : Bool) (k : Nat) : (losT l u k).length ≤ k := by
  induction k with
  | zero => simp [losT]
  | succ k ih => simp only [losT, List.length_append]; split <;> simp <;> omega
theorem losR_no {most l : Int} {u : Bool} (h : okS most l = false) : losR most l u = [] := by simp [losR, h]
theorem losR_yes {N : Nat} {l : Int} {u : Bool} (h : okS N l = true) : losR N l u = losT l u N := by simp [losR, h]
theorem length_losR (most l : Int) (u : Bool) : (losR most l u).length ≤ 60 := by
  unfold losR
  split
  · rename_i h
    have := okS_true h
    exact Nat.le_trans (length_losT _ _ _) (by omega)
  · simp



end Go.Proofs.YtcocdidkkcjbgaaDoor
