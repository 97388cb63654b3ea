/-
  Words and contracts: the game of takes, of the program and of the model. Conditions: none.
-/
import Derived.Test.YtkijcpbjjbhnhaaWt
import Derived.Test.YtkijcpbjjbhnhaaReg
import Derived.Test.YtkijcpbjjbhnhaaRegR
namespace Go.Proofs.Ytkijcpbjjbhnhaa
open Go.RowKit
set_option linter.unusedVariables false
set_option linter.unusedSimpArgs false

def tkO : Nat → List Int → Int
  | 0, _ => 0
  | n + 1, l => l.sum - min (tkO n l.tail) (tkO n l.dropLast)
def tkT : Nat → List Int → ByteArray
  | 0, _ => ⟨#[]⟩
  | n + 1, l => if tkO n l.tail ≤ tkO n l.dropLast then ⟨#[102]⟩ ++ tkT n l.tail else ⟨#[108]⟩ ++ tkT n l.dropLast
def gkP : Nat → List Int → Int × Int
  | 0, _ => (0, 0)
  | n + 1, l => if l.getD 0 0 < l.getD n 0 then (l.getD n 0 + (gkP n l.dropLast).2, (gkP n l.dropLast).1) else (l.getD 0 0 + (gkP n l.tail).2, (gkP n l.tail).1)
theorem sum_tailW {l : List Int} (h : 0 < l.length) : l.sum = l.getD 0 0 + l.tail.sum := by
  cases l with
  | nil => simp at h
  | cons a r => simp
theorem sum_lastW {l : List Int} {n : Nat} (h : l.length = n + 1) : l.sum = l.dropLast.sum + l.getD n 0 := by
  have hne : l ≠ [] := by intro e; subst e; simp at h
  have e := List.dropLast_concat_getLast hne
  have e2 : l.getD n 0 = l.getLast hne := by
    rw [List.getLast_eq_getElem, List.getD_eq_getElem?_getD, List.getElem?_eq_getElem (by omega)]
    simp [h]
  rw [e2]
  conv => lhs; rw [← e]
  rw [List.sum_append]; simp
theorem mem_tailW {l : List Int} {P : Int → Prop} (h : ∀ z ∈ l, P z) : ∀ z ∈ l.tail, P z := fun z hz => h z (List.mem_of_mem_tail hz)
theorem mem_lastW {l : List Int} {P : Int → Prop} (h : ∀ z ∈ l, P z) : ∀ z ∈ l.dropLast, P z := fun z hz => h z (List.dropLast_subset l hz)
theorem sum_nn {l : List Int} (h : ∀ z ∈ l, 0 ≤ z ∧ z ≤ 1000) : 0 ≤ l.sum ∧ l.sum ≤ 1000 * l.length := by
  induction l with
  | nil => simp
  | cons a l ih =>
    have h1 := h a (by simp)
    have h2 := ih (fun z hz => h z (by simp [hz]))
    simp
    omega
theorem tkO_in : ∀ (n : Nat) (l : List Int), l.length = n → (∀ z ∈ l, 0 ≤ z ∧ z ≤ 1000) → 0 ≤ tkO n l ∧ tkO n l ≤ l.sum := by
  intro n
  induction n with
  | zero => intro l hl h; simp [tkO]; exact (sum_nn h).1
  | succ n ih =>
    intro l hl h
    have h1 := ih l.tail (by simp [hl]) (mem_tailW h)
    have h2 := ih l.dropLast (by simp [hl]) (mem_lastW h)
    have e1 := sum_tailW (l := l) (by omega)
    have e2 := sum_lastW hl
    have b1 := h (l.getD 0 0) (by rw [List.getD_eq_getElem?_getD, List.getElem?_eq_getElem (by omega)]; simp)
    simp only [tkO]
    omega
theorem gkP_in : ∀ (n : Nat) (l : List Int), l.length = n → (∀ z ∈ l, 0 ≤ z ∧ z ≤ 1000) → 0 ≤ (gkP n l).1 ∧ 0 ≤ (gkP n l).2 ∧ (gkP n l).1 + (gkP n l).2 = l.sum := by
  intro n
  induction n with
  | zero => intro l hl h; have : l = [] := List.length_eq_zero_iff.1 hl; subst this; simp [gkP]
  | succ n ih =>
    intro l hl h
    have h1 := ih l.tail (by simp [hl]) (mem_tailW h)
    have h2 := ih l.dropLast (by simp [hl]) (mem_lastW h)
    have e1 := sum_tailW (l := l) (by omega)
    have e2 := sum_lastW hl
    have b1 := h (l.getD 0 0) (by rw [List.getD_eq_getElem?_getD, List.getElem?_eq_getElem (by omega)]; simp)
    have b2 := h (l.getD n 0) (by rw [List.getD_eq_getElem?_getD, List.getElem?_eq_getElem (by omega)]; simp)
    simp only [gkP]
    split <;> (refine ⟨?_, ?_, ?_⟩ <;> dsimp only <;> omega)
/-- the bars from one up to another one -/
def subL (l : List Int) (i j : Nat) : List Int := (l.drop i).take (j - i)
theorem subL_len {l : List Int} {i j : Nat} (hj : j ≤ l.length) : (subL l i j).length = j - i := by simp [subL]; omega
theorem subL_tail (l : List Int) (i j : Nat) : (subL l i j).tail = subL l (i + 1) j := by
  unfold subL
  rw [← List.drop_one, List.drop_take, List.drop_drop]
  congr 1
theorem subL_last {l : List Int} {i j : Nat} (hi : i < j) (hj : j ≤ l.length) : (subL l i j).dropLast = subL l i (j - 1) := by
  unfold subL
  rw [List.dropLast_eq_take, List.take_take]
  congr 1
  simp
  omega
theorem subL_at {l : List Int} {i j k : Nat} (hk : k < j - i) (hj : j ≤ l.length) : (subL l i j).getD k 0 = l.getD (i + k) 0 := by
  simp only [subL, List.getD_eq_getElem?_getD]
  rw [List.getElem?_take_of_lt hk, List.getElem?_drop]
theorem subL_all (l : List Int) : subL l 0 l.length = l := by simp [subL]
theorem subL_mem {l : List Int} {i j : Nat} {P : Int → Prop} (h : ∀ z ∈ l, P z) : ∀ z ∈ subL l i j, P z := fun z hz => h z (List.mem_of_mem_drop (List.mem_of_mem_take hz))

theorem wrapW {x : Int} (h : -9223372036854775808 ≤ x) (h2 : x ≤ 9223372036854775807) : IntKind.i64.wrap x = x := IntWalk.i64_in _ (by omega)
/-- a game of takes, as a value -/
abbrev tkV (a b : Int) (t : ByteArray) : Value := .agg #[.int .i64 a, .int .i64 b, .string t]

theorem Rd.tailW {w : World} {b o n : Nat} {l : List Int} (h : Rd w 1 (some ⟨b, o, none⟩) (n + 1) (intCells l)) (a : Nat) (ha : n = 0 ∨ a = o + 1) : Rd w 1 (some ⟨b, a, none⟩) n (intCells l.tail) := by
  have hl := h.ilen
  refine ⟨by rw [length_intCells, List.length_tail]; omega, fun hn => ?_⟩
  obtain ⟨b', o', e, hb, hc⟩ := h.2 (by omega)
  injection e with e; injection e with e1 e2
  subst e1 e2
  have ha2 : a = o + 1 := by omega
  subst ha2
  refine ⟨b, o + 1, rfl, hb, fun j u hu => ?_⟩
  rw [show o + 1 + j = o + (j + 1) by omega]
  refine hc _ _ ?_
  rw [← hu]
  simp [intCells]
theorem Rd.lastW {w : World} {n : Nat} {A : Option Addr} {l : List Int} (h : Rd w 1 A (n + 1) (intCells l)) : Rd w 1 A n (intCells l.dropLast) := by
  have hl := h.ilen
  refine ⟨by rw [length_intCells, List.length_dropLast]; omega, fun hn => ?_⟩
  obtain ⟨b, o, e, hb, hc⟩ := h.2 (by omega)
  refine ⟨b, o, e, hb, fun j u hu => hc _ _ ?_⟩
  rw [← hu]
  have hj : j < n := by have := (List.getElem?_eq_some_iff.1 hu).1; rw [length_intCells, List.length_dropLast] at this; omega
  simp only [intCells, List.getElem?_map]
  rw [List.getElem?_dropLast, if_pos (by omega)]

set_option maxRecDepth 100000 in
set_option maxHeartbeats 2000000 in
theorem takeFirstB_any (n c : Nat) (A : Option Addr) (l : List Int) (x y : Int) (t : ByteArray) (w : World) (hr : Rd w 1 A (n + 1) (intCells l)) (hn : n ≤ 20) (hc : n + 1 ≤ c) (hc2 : c ≤ 4000000000)
    (hx : 0 ≤ x ∧ x ≤ 100000) (hy : 0 ≤ y ∧ y ≤ 100000) (hz : 0 ≤ l.getD 0 0 ∧ l.getD 0 0 ≤ 1000) (ht : t.size ≤ 100)
    (hG : ∀ (A' : Option Addr) (c' : Nat) (w' : World), Rd w' 1 A' n (intCells l.tail) → n ≤ c' → c' ≤ 4000000000 → Calls Try.prog 58 #[.slice A' n c'] w' fun e w'' => e = .returned (tkV x y t) ∧ Below w'.heap.size w' w'') :
    Calls Try.prog 79 #[.slice A (n + 1) c, .func (.func 58) #[] #[]] w fun e w' => e = .returned (tkV (l.getD 0 0 + y) x (⟨#[102]⟩ ++ t)) ∧ Below w.heap.size w w' := by
  obtain ⟨b1, o1, rfl, l1, hx0, p1⟩ := hr.num (show 0 < n + 1 by omega)
  have e0 : l[0] = l.getD 0 0 := by rw [List.getD_eq_getElem?_getD, List.getElem?_eq_getElem hx0]; rfl
  rw [e0, Nat.add_zero] at p1
  generalize l.getD 0 0 = z at *
  clear e0 hx0
  have hts : (9223372036854775807 < 1 + t.size) = False := by simp; omega
  have HG := Lib.hid hG
  have HR := Lib.hid hr
  clear hG hr
  by_cases hc1 : c = 1
  · have hn0 : n = 0 := by omega
    subst hc1 hn0
    go_enter Try.func79, Try.ntmps79
    go_wp2_with fail
    refine (HG.out (some ⟨b1, o1, none⟩) 0 _ (Rd.tailW (HR.out.alloc _) o1 (.inl (by omega))) (by omega) (by omega)).mono ?_
    rintro e w2 ⟨rfl, hb2⟩
    have s2 := hb2.size
    simp at s2
    have z1 : w.heap.size < w2.heap.size := by omega
    obtain ⟨hz0, hz1⟩ := hz
    obtain ⟨hy0, hy1⟩ := hy
    have hwr : IntKind.i64.wrap (z + y) = z + y := wrapW (by omega) (by omega)
    have B3 : Below w.heap.size w (w2.alloc (.cells #[.int .i64 x, .int .i64 y, .string t] 62)) := by (repeat (first | (with_reducible exact Below.refl _ _) | (with_reducible assumption) | (with_reducible refine Below.drew ?_) | ((with_reducible refine balloc ?_ _ ?_); · (first | (simp; done) | (simp; omega) | omega)) | ((with_reducible refine bset ?_ _ ?_); · (first | (simp; done) | (simp; omega) | omega)) | (with_reducible refine bdrewN _ ?_) | ((with_reducible refine bcall ?_ (by assumption) ?_); · (first | (simp; done) | (simp; omega) | omega))))
    have p3 : (w2.alloc (.cells #[.int .i64 x, .int .i64 y, .string t] 62)).cell? ⟨b1, o1, none⟩ = some (.int .i64 z) := by rw [World.cell?_alloc_lt _ _ _ (by show b1 < w2.heap.size; omega)]; exact (hb2.cell (p := ⟨b1, o1, none⟩) (by simp; omega)).trans (by rw [World.cell?_alloc_lt _ _ _ l1]; exact p1)
    have r0 : (w2.alloc (.cells #[.int .i64 x, .int .i64 y, .string t] 62)).cell? ⟨w.heap.size, 0, none⟩ = some (.int .i64 0) := by rw [World.cell?_alloc_lt _ _ _ (by show w.heap.size < w2.heap.size; omega)]; exact (hb2.cell (p := ⟨w.heap.size, 0, none⟩) (by simp)).trans (by simp [go_sem])
    have f0 : (w2.alloc (.cells #[.int .i64 x, .int .i64 y, .string t] 62)).frozen? ⟨w.heap.size, 0, none⟩ = false := by rw [World.frozen?_alloc_past _ _ _ (by show w.heap.size < w2.heap.size; omega)]; exact (hb2.frozen (p := ⟨w.heap.size, 0, none⟩) (by simp)).trans (by simp [go_sem])
    have r1 : (w2.alloc (.cells #[.int .i64 x, .int .i64 y, .string t] 62)).cell? ⟨w.heap.size, 1, none⟩ = some (.int .i64 0) := by rw [World.cell?_alloc_lt _ _ _ (by show w.heap.size < w2.heap.size; omega)]; exact (hb2.cell (p := ⟨w.heap.size, 1, none⟩) (by simp)).trans (by simp [go_sem])
    have f1 : (w2.alloc (.cells #[.int .i64 x, .int .i64 y, .string t] 62)).frozen? ⟨w.heap.size, 1, none⟩ = false := by rw [World.frozen?_alloc_past _ _ _ (by show w.heap.size < w2.heap.size; omega)]; exact (hb2.frozen (p := ⟨w.heap.size, 1, none⟩) (by simp)).trans (by simp [go_sem])
    have r2 : (w2.alloc (.cells #[.int .i64 x, .int .i64 y, .string t] 62)).cell? ⟨w.heap.size, 2, none⟩ = some (.string ⟨#[]⟩) := by rw [World.cell?_alloc_lt _ _ _ (by show w.heap.size < w2.heap.size; omega)]; exact (hb2.cell (p := ⟨w.heap.size, 2, none⟩) (by simp)).trans (by simp [go_sem])
    have f2 : (w2.alloc (.cells #[.int .i64 x, .int .i64 y, .string t] 62)).frozen? ⟨w.heap.size, 2, none⟩ = false := by rw [World.frozen?_alloc_past _ _ _ (by show w.heap.size < w2.heap.size; omega)]; exact (hb2.frozen (p := ⟨w.heap.size, 2, none⟩) (by simp)).trans (by simp [go_sem])
    have c0 : (w2.alloc (.cells #[.int .i64 x, .int .i64 y, .string t] 62)).cell? ⟨w2.heap.size, 0, none⟩ = some (.int .i64 x) := by simp [go_sem]
    have c1 : (w2.alloc (.cells #[.int .i64 x, .int .i64 y, .string t] 62)).cell? ⟨w2.heap.size, 1, none⟩ = some (.int .i64 y) := by simp [go_sem]
    have c2 : (w2.alloc (.cells #[.int .i64 x, .int .i64 y, .string t] 62)).cell? ⟨w2.heap.size, 2, none⟩ = some (.string t) := by simp [go_sem]
    have z3 : w.heap.size < (w2.alloc (.cells #[.int .i64 x, .int .i64 y, .string t] 62)).heap.size := by simp; omega
    have l3 : b1 ≠ w.heap.size := by omega
    have l4 : b1 < w2.heap.size := by omega
    clear p1 hb2 s2 HG HR
    go_wp2
    generalize w2.alloc (.cells #[.int .i64 x, .int .i64 y, .string t] 62) = w3 at *
    generalize w2.heap.size = g at *
    refine wp_region_held_drew (S := (fun w' => w'.cell? ⟨b1, o1, none⟩ = some (.int .i64 z) ∧ w'.cell? ⟨g, 0, none⟩ = some (.int .i64 x) ∧ w'.cell? ⟨g, 1, none⟩ = some (.int .i64 y) ∧ w'.cell? ⟨g, 2, none⟩ = some (.string t))) (by kernel_rfl) ?_ (fun hHeld => ?_)
    · ((try dsimp only); (repeat' apply And.intro); all_goals ((repeat (first | (with_reducible refine cell_drew ?_) | (with_reducible refine cell_drewN _ ?_) | ((with_reducible refine cell_alloc ?_ ?_); · first | omega | (simp; done) | (simp; omega) | assumption) | ((with_reducible refine cell_set ?_ ?_); · first | (intro e; injection e; omega) | (intro e; simp at e; done) | (intro e; simp at e; omega)))); first | assumption | (simp; done)))
    refine reg_on (i := 0) (d := 10) (v := ?rv1) rfl rfl (by kernel_rfl) (by kernel_rfl) (by kernel_rfl) (fun _ _ _ h => h) (by rfl) ?ry1 (by assumption) ?rr1
    case ry1 => (intro wz hSw; (try dsimp only at hSw); go_simp; try with_reducible rfl)
    (try simp only [Act.put, List.setIfInBounds_toArray, List.set_cons_zero, List.set_cons_succ])
    refine reg_on (i := 1) (d := 11) (v := ?rv2) rfl rfl (by kernel_rfl) (by kernel_rfl) (by kernel_rfl) (fun _ _ _ h => h) (by rfl) ?ry2 (by assumption) ?rr2
    case ry2 => (intro wz hSw; (try dsimp only at hSw); go_simp; try with_reducible rfl)
    (try simp only [Act.put, List.setIfInBounds_toArray, List.set_cons_zero, List.set_cons_succ])
    refine reg_on (i := 2) (d := 12) (v := ?rv3) rfl rfl (by kernel_rfl) (by kernel_rfl) (by kernel_rfl) (fun _ _ _ h => h) (by rfl) ?ry3 (by assumption) ?rr3
    case ry3 => (intro wz hSw; (try dsimp only at hSw); go_simp; try with_reducible rfl)
    (try simp only [Act.put, List.setIfInBounds_toArray, List.set_cons_zero, List.set_cons_succ])
    refine reg_on (i := 3) (d := 13) (v := ?rv4) rfl rfl (by kernel_rfl) (by kernel_rfl) (by kernel_rfl) (fun _ _ _ h => h) (by rfl) ?ry4 (by assumption) ?rr4
    case ry4 => (intro wz hSw; (try dsimp only at hSw); go_simp; try with_reducible rfl)
    (try simp only [Act.put, List.setIfInBounds_toArray, List.set_cons_zero, List.set_cons_succ])
    refine reg_on (i := 4) (d := 14) (v := ?rv5) rfl rfl (by kernel_rfl) (by kernel_rfl) (by kernel_rfl) (fun _ _ _ h => h) (by rfl) ?ry5 (by assumption) ?rr5
    case ry5 => (intro wz hSw; (try dsimp only at hSw); go_simp; try with_reducible rfl)
    (try simp only [Act.put, List.setIfInBounds_toArray, List.set_cons_zero, List.set_cons_succ])
    refine reg_on (i := 5) (d := 15) (v := ?rv6) rfl rfl (by kernel_rfl) (by kernel_rfl) (by kernel_rfl) (fun _ _ _ h => h) (by rfl) ?ry6 (by assumption) ?rr6
    case ry6 => (intro wz hSw; (try dsimp only at hSw); go_simp; try with_reducible rfl)
    (try simp only [Act.put, List.setIfInBounds_toArray, List.set_cons_zero, List.set_cons_succ])
    refine reg_on (i := 6) (d := 16) (v := ?rv7) rfl rfl (by kernel_rfl) (by kernel_rfl) (by kernel_rfl) (fun _ _ _ h => h) (by rfl) ?ry7 (by assumption) ?rr7
    case ry7 => (intro wz hSw; (try dsimp only at hSw); go_simp; try with_reducible rfl)
    (try simp only [Act.put, List.setIfInBounds_toArray, List.set_cons_zero, List.set_cons_succ])
    refine reg_on (i := 7) (d := 17) (v := ?rv8) rfl rfl (by kernel_rfl) (by kernel_rfl) (by kernel_rfl) (fun _ _ _ h => h) (by rfl) ?ry8 (by assumption) ?rr8
    case ry8 => (intro wz hSw; (try dsimp only at hSw); go_simp; try with_reducible rfl)
    (try simp only [Act.put, List.setIfInBounds_toArray, List.set_cons_zero, List.set_cons_succ])
    refine reg_on (i := 8) (d := 18) (v := ?rv9) rfl rfl (by kernel_rfl) (by kernel_rfl) (by kernel_rfl) (fun _ _ _ h => h) (by rfl) ?ry9 (by assumption) ?rr9
    case ry9 => (intro wz hSw; (try dsimp only at hSw); go_simp; try with_reducible rfl)
    (try simp only [Act.put, List.setIfInBounds_toArray, List.set_cons_zero, List.set_cons_succ])
    refine reg_on (i := 9) (d := 19) (v := ?rv10) rfl rfl (by kernel_rfl) (by kernel_rfl) (by kernel_rfl) (fun _ _ _ h => h) (by rfl) ?ry10 (by assumption) ?rr10
    case ry10 => (intro wz hSw; (try dsimp only at hSw); go_simp; try with_reducible rfl)
    (try simp only [Act.put, List.setIfInBounds_toArray, List.set_cons_zero, List.set_cons_succ])
    refine reg_on (i := 10) (d := 20) (v := ?rv11) rfl rfl (by kernel_rfl) (by kernel_rfl) (by kernel_rfl) (fun _ _ _ h => h) (by rfl) ?ry11 (by assumption) ?rr11
    case ry11 => (intro wz hSw; (try dsimp only at hSw); go_simp; try with_reducible rfl)
    (try simp only [Act.put, List.setIfInBounds_toArray, List.set_cons_zero, List.set_cons_succ])
    refine reg_on (i := 11) (d := 21) (v := ?rv12) rfl rfl (by kernel_rfl) (by kernel_rfl) (by kernel_rfl) (fun _ _ _ h => h) (by rfl) ?ry12 (by assumption) ?rr12
    case ry12 => (intro wz hSw; (try dsimp only at hSw); go_simp; try with_reducible rfl)
    (try simp only [Act.put, List.setIfInBounds_toArray, List.set_cons_zero, List.set_cons_succ])
    refine wpAnyH_ready (rs := [12]) (by kernel_rfl) (by simp) ?_
    refine AllReadyH.cons rfl (fun K hK => ?_) AllReadyH.nil
    go_simp
    refine hK.out _ _ ?_ (fun hHeld => ?_)
    · ((try dsimp only); (repeat' apply And.intro); all_goals ((repeat (first | (with_reducible refine cell_drew ?_) | (with_reducible refine cell_drewN _ ?_) | ((with_reducible refine cell_alloc ?_ ?_); · first | omega | (simp; done) | (simp; omega) | assumption) | ((with_reducible refine cell_set ?_ ?_); · first | (intro e; injection e; omega) | (intro e; simp at e; done) | (intro e; simp at e; omega)))); first | assumption | (simp; done)))
    clear hK K
    (try simp only [Act.put, List.setIfInBounds_toArray, List.set_cons_zero, List.set_cons_succ])
    refine wpAnyH_done (by kernel_rfl) ?_ _
    go_wp2
    refine bodyPost_ret (v := tkV (z + y) x (⟨#[102]⟩ ++ t)) (by simp [results, Try.results79, go_sem, *]) rfl ⟨rfl, by (repeat (first | (with_reducible exact Below.refl _ _) | (with_reducible assumption) | (with_reducible refine Below.drew ?_) | ((with_reducible refine balloc ?_ _ ?_); · (first | (simp; done) | (simp; omega) | omega)) | ((with_reducible refine bset ?_ _ ?_); · (first | (simp; done) | (simp; omega) | omega)) | (with_reducible refine bdrewN _ ?_) | ((with_reducible refine bcall ?_ (by assumption) ?_); · (first | (simp; done) | (simp; omega) | omega))))⟩
  · go_enter Try.func79, Try.ntmps79
    go_wp2_with fail
    refine (HG.out (some ⟨b1, o1 + 1, none⟩) (c - 1) _ (Rd.tailW (HR.out.alloc _) (o1 + 1) (.inr rfl)) (by omega) (by omega)).mono ?_
    rintro e w2 ⟨rfl, hb2⟩
    have s2 := hb2.size
    simp at s2
    have z1 : w.heap.size < w2.heap.size := by omega
    obtain ⟨hz0, hz1⟩ := hz
    obtain ⟨hy0, hy1⟩ := hy
    have hwr : IntKind.i64.wrap (z + y) = z + y := wrapW (by omega) (by omega)
    have B3 : Below w.heap.size w (w2.alloc (.cells #[.int .i64 x, .int .i64 y, .string t] 62)) := by (repeat (first | (with_reducible exact Below.refl _ _) | (with_reducible assumption) | (with_reducible refine Below.drew ?_) | ((with_reducible refine balloc ?_ _ ?_); · (first | (simp; done) | (simp; omega) | omega)) | ((with_reducible refine bset ?_ _ ?_); · (first | (simp; done) | (simp; omega) | omega)) | (with_reducible refine bdrewN _ ?_) | ((with_reducible refine bcall ?_ (by assumption) ?_); · (first | (simp; done) | (simp; omega) | omega))))
    have p3 : (w2.alloc (.cells #[.int .i64 x, .int .i64 y, .string t] 62)).cell? ⟨b1, o1, none⟩ = some (.int .i64 z) := by rw [World.cell?_alloc_lt _ _ _ (by show b1 < w2.heap.size; omega)]; exact (hb2.cell (p := ⟨b1, o1, none⟩) (by simp; omega)).trans (by rw [World.cell?_alloc_lt _ _ _ l1]; exact p1)
    have r0 : (w2.alloc (.cells #[.int .i64 x, .int .i64 y, .string t] 62)).cell? ⟨w.heap.size, 0, none⟩ = some (.int .i64 0) := by rw [World.cell?_alloc_lt _ _ _ (by show w.heap.size < w2.heap.size; omega)]; exact (hb2.cell (p := ⟨w.heap.size, 0, none⟩) (by simp)).trans (by simp [go_sem])
    have f0 : (w2.alloc (.cells #[.int .i64 x, .int .i64 y, .string t] 62)).frozen? ⟨w.heap.size, 0, none⟩ = false := by rw [World.frozen?_alloc_past _ _ _ (by show w.heap.size < w2.heap.size; omega)]; exact (hb2.frozen (p := ⟨w.heap.size, 0, none⟩) (by simp)).trans (by simp [go_sem])
    have r1 : (w2.alloc (.cells #[.int .i64 x, .int .i64 y, .string t] 62)).cell? ⟨w.heap.size, 1, none⟩ = some (.int .i64 0) := by rw [World.cell?_alloc_lt _ _ _ (by show w.heap.size < w2.heap.size; omega)]; exact (hb2.cell (p := ⟨w.heap.size, 1, none⟩) (by simp)).trans (by simp [go_sem])
    have f1 : (w2.alloc (.cells #[.int .i64 x, .int .i64 y, .string t] 62)).frozen? ⟨w.heap.size, 1, none⟩ = false := by rw [World.frozen?_alloc_past _ _ _ (by show w.heap.size < w2.heap.size; omega)]; exact (hb2.frozen (p := ⟨w.heap.size, 1, none⟩) (by simp)).trans (by simp [go_sem])
    have r2 : (w2.alloc (.cells #[.int .i64 x, .int .i64 y, .string t] 62)).cell? ⟨w.heap.size, 2, none⟩ = some (.string ⟨#[]⟩) := by rw [World.cell?_alloc_lt _ _ _ (by show w.heap.size < w2.heap.size; omega)]; exact (hb2.cell (p := ⟨w.heap.size, 2, none⟩) (by simp)).trans (by simp [go_sem])
    have f2 : (w2.alloc (.cells #[.int .i64 x, .int .i64 y, .string t] 62)).frozen? ⟨w.heap.size, 2, none⟩ = false := by rw [World.frozen?_alloc_past _ _ _ (by show w.heap.size < w2.heap.size; omega)]; exact (hb2.frozen (p := ⟨w.heap.size, 2, none⟩) (by simp)).trans (by simp [go_sem])
    have c0 : (w2.alloc (.cells #[.int .i64 x, .int .i64 y, .string t] 62)).cell? ⟨w2.heap.size, 0, none⟩ = some (.int .i64 x) := by simp [go_sem]
    have c1 : (w2.alloc (.cells #[.int .i64 x, .int .i64 y, .string t] 62)).cell? ⟨w2.heap.size, 1, none⟩ = some (.int .i64 y) := by simp [go_sem]
    have c2 : (w2.alloc (.cells #[.int .i64 x, .int .i64 y, .string t] 62)).cell? ⟨w2.heap.size, 2, none⟩ = some (.string t) := by simp [go_sem]
    have z3 : w.heap.size < (w2.alloc (.cells #[.int .i64 x, .int .i64 y, .string t] 62)).heap.size := by simp; omega
    have l3 : b1 ≠ w.heap.size := by omega
    have l4 : b1 < w2.heap.size := by omega
    clear p1 hb2 s2 HG HR
    go_wp2
    generalize w2.alloc (.cells #[.int .i64 x, .int .i64 y, .string t] 62) = w3 at *
    generalize w2.heap.size = g at *
    refine wp_region_held_drew (S := (fun w' => w'.cell? ⟨b1, o1, none⟩ = some (.int .i64 z) ∧ w'.cell? ⟨g, 0, none⟩ = some (.int .i64 x) ∧ w'.cell? ⟨g, 1, none⟩ = some (.int .i64 y) ∧ w'.cell? ⟨g, 2, none⟩ = some (.string t))) (by kernel_rfl) ?_ (fun hHeld => ?_)
    · ((try dsimp only); (repeat' apply And.intro); all_goals ((repeat (first | (with_reducible refine cell_drew ?_) | (with_reducible refine cell_drewN _ ?_) | ((with_reducible refine cell_alloc ?_ ?_); · first | omega | (simp; done) | (simp; omega) | assumption) | ((with_reducible refine cell_set ?_ ?_); · first | (intro e; injection e; omega) | (intro e; simp at e; done) | (intro e; simp at e; omega)))); first | assumption | (simp; done)))
    refine reg_on (i := 0) (d := 10) (v := ?rv14) rfl rfl (by kernel_rfl) (by kernel_rfl) (by kernel_rfl) (fun _ _ _ h => h) (by rfl) ?ry14 (by assumption) ?rr14
    case ry14 => (intro wz hSw; (try dsimp only at hSw); go_simp; try with_reducible rfl)
    (try simp only [Act.put, List.setIfInBounds_toArray, List.set_cons_zero, List.set_cons_succ])
    refine reg_on (i := 1) (d := 11) (v := ?rv15) rfl rfl (by kernel_rfl) (by kernel_rfl) (by kernel_rfl) (fun _ _ _ h => h) (by rfl) ?ry15 (by assumption) ?rr15
    case ry15 => (intro wz hSw; (try dsimp only at hSw); go_simp; try with_reducible rfl)
    (try simp only [Act.put, List.setIfInBounds_toArray, List.set_cons_zero, List.set_cons_succ])
    refine reg_on (i := 2) (d := 12) (v := ?rv16) rfl rfl (by kernel_rfl) (by kernel_rfl) (by kernel_rfl) (fun _ _ _ h => h) (by rfl) ?ry16 (by assumption) ?rr16
    case ry16 => (intro wz hSw; (try dsimp only at hSw); go_simp; try with_reducible rfl)
    (try simp only [Act.put, List.setIfInBounds_toArray, List.set_cons_zero, List.set_cons_succ])
    refine reg_on (i := 3) (d := 13) (v := ?rv17) rfl rfl (by kernel_rfl) (by kernel_rfl) (by kernel_rfl) (fun _ _ _ h => h) (by rfl) ?ry17 (by assumption) ?rr17
    case ry17 => (intro wz hSw; (try dsimp only at hSw); go_simp; try with_reducible rfl)
    (try simp only [Act.put, List.setIfInBounds_toArray, List.set_cons_zero, List.set_cons_succ])
    refine reg_on (i := 4) (d := 14) (v := ?rv18) rfl rfl (by kernel_rfl) (by kernel_rfl) (by kernel_rfl) (fun _ _ _ h => h) (by rfl) ?ry18 (by assumption) ?rr18
    case ry18 => (intro wz hSw; (try dsimp only at hSw); go_simp; try with_reducible rfl)
    (try simp only [Act.put, List.setIfInBounds_toArray, List.set_cons_zero, List.set_cons_succ])
    refine reg_on (i := 5) (d := 15) (v := ?rv19) rfl rfl (by kernel_rfl) (by kernel_rfl) (by kernel_rfl) (fun _ _ _ h => h) (by rfl) ?ry19 (by assumption) ?rr19
    case ry19 => (intro wz hSw; (try dsimp only at hSw); go_simp; try with_reducible rfl)
    (try simp only [Act.put, List.setIfInBounds_toArray, List.set_cons_zero, List.set_cons_succ])
    refine reg_on (i := 6) (d := 16) (v := ?rv20) rfl rfl (by kernel_rfl) (by kernel_rfl) (by kernel_rfl) (fun _ _ _ h => h) (by rfl) ?ry20 (by assumption) ?rr20
    case ry20 => (intro wz hSw; (try dsimp only at hSw); go_simp; try with_reducible rfl)
    (try simp only [Act.put, List.setIfInBounds_toArray, List.set_cons_zero, List.set_cons_succ])
    refine reg_on (i := 7) (d := 17) (v := ?rv21) rfl rfl (by kernel_rfl) (by kernel_rfl) (by kernel_rfl) (fun _ _ _ h => h) (by rfl) ?ry21 (by assumption) ?rr21
    case ry21 => (intro wz hSw; (try dsimp only at hSw); go_simp; try with_reducible rfl)
    (try simp only [Act.put, List.setIfInBounds_toArray, List.set_cons_zero, List.set_cons_succ])
    refine reg_on (i := 8) (d := 18) (v := ?rv22) rfl rfl (by kernel_rfl) (by kernel_rfl) (by kernel_rfl) (fun _ _ _ h => h) (by rfl) ?ry22 (by assumption) ?rr22
    case ry22 => (intro wz hSw; (try dsimp only at hSw); go_simp; try with_reducible rfl)
    (try simp only [Act.put, List.setIfInBounds_toArray, List.set_cons_zero, List.set_cons_succ])
    refine reg_on (i := 9) (d := 19) (v := ?rv23) rfl rfl (by kernel_rfl) (by kernel_rfl) (by kernel_rfl) (fun _ _ _ h => h) (by rfl) ?ry23 (by assumption) ?rr23
    case ry23 => (intro wz hSw; (try dsimp only at hSw); go_simp; try with_reducible rfl)
    (try simp only [Act.put, List.setIfInBounds_toArray, List.set_cons_zero, List.set_cons_succ])
    refine reg_on (i := 10) (d := 20) (v := ?rv24) rfl rfl (by kernel_rfl) (by kernel_rfl) (by kernel_rfl) (fun _ _ _ h => h) (by rfl) ?ry24 (by assumption) ?rr24
    case ry24 => (intro wz hSw; (try dsimp only at hSw); go_simp; try with_reducible rfl)
    (try simp only [Act.put, List.setIfInBounds_toArray, List.set_cons_zero, List.set_cons_succ])
    refine reg_on (i := 11) (d := 21) (v := ?rv25) rfl rfl (by kernel_rfl) (by kernel_rfl) (by kernel_rfl) (fun _ _ _ h => h) (by rfl) ?ry25 (by assumption) ?rr25
    case ry25 => (intro wz hSw; (try dsimp only at hSw); go_simp; try with_reducible rfl)
    (try simp only [Act.put, List.setIfInBounds_toArray, List.set_cons_zero, List.set_cons_succ])
    refine wpAnyH_ready (rs := [12]) (by kernel_rfl) (by simp) ?_
    refine AllReadyH.cons rfl (fun K hK => ?_) AllReadyH.nil
    go_simp
    refine hK.out _ _ ?_ (fun hHeld => ?_)
    · ((try dsimp only); (repeat' apply And.intro); all_goals ((repeat (first | (with_reducible refine cell_drew ?_) | (with_reducible refine cell_drewN _ ?_) | ((with_reducible refine cell_alloc ?_ ?_); · first | omega | (simp; done) | (simp; omega) | assumption) | ((with_reducible refine cell_set ?_ ?_); · first | (intro e; injection e; omega) | (intro e; simp at e; done) | (intro e; simp at e; omega)))); first | assumption | (simp; done)))
    clear hK K
    (try simp only [Act.put, List.setIfInBounds_toArray, List.set_cons_zero, List.set_cons_succ])
    refine wpAnyH_done (by kernel_rfl) ?_ _
    go_wp2
    refine bodyPost_ret (v := tkV (z + y) x (⟨#[102]⟩ ++ t)) (by simp [results, Try.results79, go_sem, *]) rfl ⟨rfl, by (repeat (first | (with_reducible exact Below.refl _ _) | (with_reducible assumption) | (with_reducible refine Below.drew ?_) | ((with_reducible refine balloc ?_ _ ?_); · (first | (simp; done) | (simp; omega) | omega)) | ((with_reducible refine bset ?_ _ ?_); · (first | (simp; done) | (simp; omega) | omega)) | (with_reducible refine bdrewN _ ?_) | ((with_reducible refine bcall ?_ (by assumption) ?_); · (first | (simp; done) | (simp; omega) | omega))))⟩

set_option maxRecDepth 100000 in
set_option maxHeartbeats 2000000 in
theorem takeLastB_any (n c : Nat) (A : Option Addr) (l : List Int) (x y : Int) (t : ByteArray) (w : World) (hr : Rd w 1 A (n + 1) (intCells l)) (hn : n ≤ 20) (hc : n + 1 ≤ c) (hc2 : c ≤ 4000000000)
    (hx : 0 ≤ x ∧ x ≤ 100000) (hy : 0 ≤ y ∧ y ≤ 100000) (hz : 0 ≤ l.getD n 0 ∧ l.getD n 0 ≤ 1000) (ht : t.size ≤ 100)
    (hG : ∀ (A' : Option Addr) (c' : Nat) (w' : World), Rd w' 1 A' n (intCells l.dropLast) → n ≤ c' → c' ≤ 4000000000 → Calls Try.prog 58 #[.slice A' n c'] w' fun e w'' => e = .returned (tkV x y t) ∧ Below w'.heap.size w' w'') :
    Calls Try.prog 80 #[.slice A (n + 1) c, .func (.func 58) #[] #[]] w fun e w' => e = .returned (tkV (l.getD n 0 + y) x (⟨#[108]⟩ ++ t)) ∧ Below w.heap.size w w' := by
  obtain ⟨b1, o1, rfl, l1, hx0, p1⟩ := hr.num (show n < n + 1 by omega)
  have e0 : l[n] = l.getD n 0 := by rw [List.getD_eq_getElem?_getD, List.getElem?_eq_getElem hx0]; rfl
  rw [e0] at p1
  generalize l.getD n 0 = z at *
  clear e0 hx0
  have hts : (9223372036854775807 < 1 + t.size) = False := by simp; omega
  have hin : ((n : Int) < (n : Int) + 1) = True := by simp; omega
  have HG := Lib.hid hG
  have HR := Lib.hid hr
  clear hG hr
  go_enter Try.func80, Try.ntmps80
  go_wp2_with fail
  refine (HG.out (some ⟨b1, o1, none⟩) n _ (Rd.lastW (HR.out.alloc _)) (by omega) (by omega)).mono ?_
  rintro e w2 ⟨rfl, hb2⟩
  have s2 := hb2.size
  simp at s2
  have z1 : w.heap.size < w2.heap.size := by omega
  obtain ⟨hz0, hz1⟩ := hz
  obtain ⟨hy0, hy1⟩ := hy
  have hwr : IntKind.i64.wrap (z + y) = z + y := wrapW (by omega) (by omega)
  have B3 : Below w.heap.size w (w2.alloc (.cells #[.int .i64 x, .int .i64 y, .string t] 62)) := by (repeat (first | (with_reducible exact Below.refl _ _) | (with_reducible assumption) | (with_reducible refine Below.drew ?_) | ((with_reducible refine balloc ?_ _ ?_); · (first | (simp; done) | (simp; omega) | omega)) | ((with_reducible refine bset ?_ _ ?_); · (first | (simp; done) | (simp; omega) | omega)) | (with_reducible refine bdrewN _ ?_) | ((with_reducible refine bcall ?_ (by assumption) ?_); · (first | (simp; done) | (simp; omega) | omega))))
  have p3 : (w2.alloc (.cells #[.int .i64 x, .int .i64 y, .string t] 62)).cell? ⟨b1, o1 + n, none⟩ = some (.int .i64 z) := by rw [World.cell?_alloc_lt _ _ _ (by show b1 < w2.heap.size; omega)]; exact (hb2.cell (p := ⟨b1, o1 + n, none⟩) (by simp; omega)).trans (by rw [World.cell?_alloc_lt _ _ _ l1]; exact p1)
  have r0 : (w2.alloc (.cells #[.int .i64 x, .int .i64 y, .string t] 62)).cell? ⟨w.heap.size, 0, none⟩ = some (.int .i64 0) := by rw [World.cell?_alloc_lt _ _ _ (by show w.heap.size < w2.heap.size; omega)]; exact (hb2.cell (p := ⟨w.heap.size, 0, none⟩) (by simp)).trans (by simp [go_sem])
  have f0 : (w2.alloc (.cells #[.int .i64 x, .int .i64 y, .string t] 62)).frozen? ⟨w.heap.size, 0, none⟩ = false := by rw [World.frozen?_alloc_past _ _ _ (by show w.heap.size < w2.heap.size; omega)]; exact (hb2.frozen (p := ⟨w.heap.size, 0, none⟩) (by simp)).trans (by simp [go_sem])
  have r1 : (w2.alloc (.cells #[.int .i64 x, .int .i64 y, .string t] 62)).cell? ⟨w.heap.size, 1, none⟩ = some (.int .i64 0) := by rw [World.cell?_alloc_lt _ _ _ (by show w.heap.size < w2.heap.size; omega)]; exact (hb2.cell (p := ⟨w.heap.size, 1, none⟩) (by simp)).trans (by simp [go_sem])
  have f1 : (w2.alloc (.cells #[.int .i64 x, .int .i64 y, .string t] 62)).frozen? ⟨w.heap.size, 1, none⟩ = false := by rw [World.frozen?_alloc_past _ _ _ (by show w.heap.size < w2.heap.size; omega)]; exact (hb2.frozen (p := ⟨w.heap.size, 1, none⟩) (by simp)).trans (by simp [go_sem])
  have r2 : (w2.alloc (.cells #[.int .i64 x, .int .i64 y, .string t] 62)).cell? ⟨w.heap.size, 2, none⟩ = some (.string ⟨#[]⟩) := by rw [World.cell?_alloc_lt _ _ _ (by show w.heap.size < w2.heap.size; omega)]; exact (hb2.cell (p := ⟨w.heap.size, 2, none⟩) (by simp)).trans (by simp [go_sem])
  have f2 : (w2.alloc (.cells #[.int .i64 x, .int .i64 y, .string t] 62)).frozen? ⟨w.heap.size, 2, none⟩ = false := by rw [World.frozen?_alloc_past _ _ _ (by show w.heap.size < w2.heap.size; omega)]; exact (hb2.frozen (p := ⟨w.heap.size, 2, none⟩) (by simp)).trans (by simp [go_sem])
  have c0 : (w2.alloc (.cells #[.int .i64 x, .int .i64 y, .string t] 62)).cell? ⟨w2.heap.size, 0, none⟩ = some (.int .i64 x) := by simp [go_sem]
  have c1 : (w2.alloc (.cells #[.int .i64 x, .int .i64 y, .string t] 62)).cell? ⟨w2.heap.size, 1, none⟩ = some (.int .i64 y) := by simp [go_sem]
  have c2 : (w2.alloc (.cells #[.int .i64 x, .int .i64 y, .string t] 62)).cell? ⟨w2.heap.size, 2, none⟩ = some (.string t) := by simp [go_sem]
  have z3 : w.heap.size < (w2.alloc (.cells #[.int .i64 x, .int .i64 y, .string t] 62)).heap.size := by simp; omega
  have l3 : b1 ≠ w.heap.size := by omega
  have l4 : b1 < w2.heap.size := by omega
  clear p1 hb2 s2 HG HR
  go_wp2
  generalize w2.alloc (.cells #[.int .i64 x, .int .i64 y, .string t] 62) = w3 at *
  generalize w2.heap.size = g at *
  refine wp_region_held_drew (S := (fun w' => w'.cell? ⟨b1, o1 + n, none⟩ = some (.int .i64 z) ∧ w'.cell? ⟨g, 0, none⟩ = some (.int .i64 x) ∧ w'.cell? ⟨g, 1, none⟩ = some (.int .i64 y) ∧ w'.cell? ⟨g, 2, none⟩ = some (.string t))) (by kernel_rfl) ?_ (fun hHeld => ?_)
  · ((try dsimp only); (repeat' apply And.intro); all_goals ((repeat (first | (with_reducible refine cell_drew ?_) | (with_reducible refine cell_drewN _ ?_) | ((with_reducible refine cell_alloc ?_ ?_); · first | omega | (simp; done) | (simp; omega) | assumption) | ((with_reducible refine cell_set ?_ ?_); · first | (intro e; injection e; omega) | (intro e; simp at e; done) | (intro e; simp at e; omega)))); first | assumption | (simp; done)))
  refine reg_on (i := 0) (d := 16) (v := ?rv27) rfl rfl (by kernel_rfl) (by kernel_rfl) (by kernel_rfl) (fun _ _ _ h => h) (by rfl) ?ry27 (by assumption) ?rr27
  case ry27 => (intro wz hSw; (try dsimp only at hSw); go_simp; try with_reducible rfl)
  (try simp only [Act.put, List.setIfInBounds_toArray, List.set_cons_zero, List.set_cons_succ])
  refine reg_on (i := 1) (d := 17) (v := ?rv28) rfl rfl (by kernel_rfl) (by kernel_rfl) (by kernel_rfl) (fun _ _ _ h => h) (by rfl) ?ry28 (by assumption) ?rr28
  case ry28 => (intro wz hSw; (try dsimp only at hSw); go_simp; try with_reducible rfl)
  (try simp only [Act.put, List.setIfInBounds_toArray, List.set_cons_zero, List.set_cons_succ])
  refine reg_on (i := 2) (d := 18) (v := ?rv29) rfl rfl (by kernel_rfl) (by kernel_rfl) (by kernel_rfl) (fun _ _ _ h => h) (by rfl) ?ry29 (by assumption) ?rr29
  case ry29 => (intro wz hSw; (try dsimp only at hSw); go_simp; try with_reducible rfl)
  (try simp only [Act.put, List.setIfInBounds_toArray, List.set_cons_zero, List.set_cons_succ])
  refine reg_on (i := 3) (d := 19) (v := ?rv30) rfl rfl (by kernel_rfl) (by kernel_rfl) (by kernel_rfl) (fun _ _ _ h => h) (by rfl) ?ry30 (by assumption) ?rr30
  case ry30 => (intro wz hSw; (try dsimp only at hSw); go_simp; try with_reducible rfl)
  (try simp only [Act.put, List.setIfInBounds_toArray, List.set_cons_zero, List.set_cons_succ])
  refine reg_on (i := 4) (d := 20) (v := ?rv31) rfl rfl (by kernel_rfl) (by kernel_rfl) (by kernel_rfl) (fun _ _ _ h => h) (by rfl) ?ry31 (by assumption) ?rr31
  case ry31 => (intro wz hSw; (try dsimp only at hSw); go_simp; try with_reducible rfl)
  (try simp only [Act.put, List.setIfInBounds_toArray, List.set_cons_zero, List.set_cons_succ])
  refine reg_on (i := 5) (d := 21) (v := ?rv32) rfl rfl (by kernel_rfl) (by kernel_rfl) (by kernel_rfl) (fun _ _ _ h => h) (by rfl) ?ry32 (by assumption) ?rr32
  case ry32 => (intro wz hSw; (try dsimp only at hSw); go_simp; try with_reducible rfl)
  (try simp only [Act.put, List.setIfInBounds_toArray, List.set_cons_zero, List.set_cons_succ])
  refine reg_on (i := 6) (d := 22) (v := ?rv33) rfl rfl (by kernel_rfl) (by kernel_rfl) (by kernel_rfl) (fun _ _ _ h => h) (by rfl) ?ry33 (by assumption) ?rr33
  case ry33 => (intro wz hSw; (try dsimp only at hSw); go_simp; try with_reducible rfl)
  (try simp only [Act.put, List.setIfInBounds_toArray, List.set_cons_zero, List.set_cons_succ])
  refine reg_on (i := 7) (d := 23) (v := ?rv34) rfl rfl (by kernel_rfl) (by kernel_rfl) (by kernel_rfl) (fun _ _ _ h => h) (by rfl) ?ry34 (by assumption) ?rr34
  case ry34 => (intro wz hSw; (try dsimp only at hSw); go_simp; try with_reducible rfl)
  (try simp only [Act.put, List.setIfInBounds_toArray, List.set_cons_zero, List.set_cons_succ])
  refine reg_on (i := 8) (d := 24) (v := ?rv35) rfl rfl (by kernel_rfl) (by kernel_rfl) (by kernel_rfl) (fun _ _ _ h => h) (by rfl) ?ry35 (by assumption) ?rr35
  case ry35 => (intro wz hSw; (try dsimp only at hSw); go_simp; try with_reducible rfl)
  (try simp only [Act.put, List.setIfInBounds_toArray, List.set_cons_zero, List.set_cons_succ])
  refine reg_on (i := 9) (d := 25) (v := ?rv36) rfl rfl (by kernel_rfl) (by kernel_rfl) (by kernel_rfl) (fun _ _ _ h => h) (by rfl) ?ry36 (by assumption) ?rr36
  case ry36 => (intro wz hSw; (try dsimp only at hSw); go_simp; try with_reducible rfl)
  (try simp only [Act.put, List.setIfInBounds_toArray, List.set_cons_zero, List.set_cons_succ])
  refine reg_on (i := 10) (d := 26) (v := ?rv37) rfl rfl (by kernel_rfl) (by kernel_rfl) (by kernel_rfl) (fun _ _ _ h => h) (by rfl) ?ry37 (by assumption) ?rr37
  case ry37 => (intro wz hSw; (try dsimp only at hSw); go_simp; try with_reducible rfl)
  (try simp only [Act.put, List.setIfInBounds_toArray, List.set_cons_zero, List.set_cons_succ])
  refine reg_on (i := 11) (d := 27) (v := ?rv38) rfl rfl (by kernel_rfl) (by kernel_rfl) (by kernel_rfl) (fun _ _ _ h => h) (by rfl) ?ry38 (by assumption) ?rr38
  case ry38 => (intro wz hSw; (try dsimp only at hSw); go_simp; try with_reducible rfl)
  (try simp only [Act.put, List.setIfInBounds_toArray, List.set_cons_zero, List.set_cons_succ])
  refine reg_on (i := 12) (d := 28) (v := ?rv39) rfl rfl (by kernel_rfl) (by kernel_rfl) (by kernel_rfl) (fun _ _ _ h => h) (by rfl) ?ry39 (by assumption) ?rr39
  case ry39 => (intro wz hSw; (try dsimp only at hSw); go_simp; try with_reducible rfl)
  (try simp only [Act.put, List.setIfInBounds_toArray, List.set_cons_zero, List.set_cons_succ])
  refine wpAnyH_ready (rs := [13]) (by kernel_rfl) (by simp) ?_
  refine AllReadyH.cons rfl (fun K hK => ?_) AllReadyH.nil
  go_simp
  refine hK.out _ _ ?_ (fun hHeld => ?_)
  · ((try dsimp only); (repeat' apply And.intro); all_goals ((repeat (first | (with_reducible refine cell_drew ?_) | (with_reducible refine cell_drewN _ ?_) | ((with_reducible refine cell_alloc ?_ ?_); · first | omega | (simp; done) | (simp; omega) | assumption) | ((with_reducible refine cell_set ?_ ?_); · first | (intro e; injection e; omega) | (intro e; simp at e; done) | (intro e; simp at e; omega)))); first | assumption | (simp; done)))
  clear hK K
  (try simp only [Act.put, List.setIfInBounds_toArray, List.set_cons_zero, List.set_cons_succ])
  refine wpAnyH_done (by kernel_rfl) ?_ _
  go_wp2
  refine bodyPost_ret (v := tkV (z + y) x (⟨#[108]⟩ ++ t)) (by simp [results, Try.results80, go_sem, *]) rfl ⟨rfl, by (repeat (first | (with_reducible exact Below.refl _ _) | (with_reducible assumption) | (with_reducible refine Below.drew ?_) | ((with_reducible refine balloc ?_ _ ?_); · (first | (simp; done) | (simp; omega) | omega)) | ((with_reducible refine bset ?_ _ ?_); · (first | (simp; done) | (simp; omega) | omega)) | (with_reducible refine bdrewN _ ?_) | ((with_reducible refine bcall ?_ (by assumption) ?_); · (first | (simp; done) | (simp; omega) | omega))))⟩


set_option maxRecDepth 100000 in
set_option maxHeartbeats 2000000 in
theorem takeFirstG_any (n c : Nat) (A : Option Addr) (l : List Int) (x y : Int) (t : ByteArray) (w : World) (hr : Rd w 1 A (n + 1) (intCells l)) (hn : n ≤ 20) (hc : n + 1 ≤ c) (hc2 : c ≤ 4000000000)
    (hx : 0 ≤ x ∧ x ≤ 100000) (hy : 0 ≤ y ∧ y ≤ 100000) (hz : 0 ≤ l.getD 0 0 ∧ l.getD 0 0 ≤ 1000) (ht : t.size ≤ 100)
    (hG : ∀ (A' : Option Addr) (c' : Nat) (w' : World), Rd w' 1 A' n (intCells l.tail) → n ≤ c' → c' ≤ 4000000000 → Calls Try.prog 59 #[.slice A' n c'] w' fun e w'' => e = .returned (tkV x y t) ∧ Below w'.heap.size w' w'') :
    Calls Try.prog 79 #[.slice A (n + 1) c, .func (.func 59) #[] #[]] w fun e w' => e = .returned (tkV (l.getD 0 0 + y) x (⟨#[102]⟩ ++ t)) ∧ Below w.heap.size w w' := by
  obtain ⟨b1, o1, rfl, l1, hx0, p1⟩ := hr.num (show 0 < n + 1 by omega)
  have e0 : l[0] = l.getD 0 0 := by rw [List.getD_eq_getElem?_getD, List.getElem?_eq_getElem hx0]; rfl
  rw [e0, Nat.add_zero] at p1
  generalize l.getD 0 0 = z at *
  clear e0 hx0
  have hts : (9223372036854775807 < 1 + t.size) = False := by simp; omega
  have HG := Lib.hid hG
  have HR := Lib.hid hr
  clear hG hr
  by_cases hc1 : c = 1
  · have hn0 : n = 0 := by omega
    subst hc1 hn0
    go_enter Try.func79, Try.ntmps79
    go_wp2_with fail
    refine (HG.out (some ⟨b1, o1, none⟩) 0 _ (Rd.tailW (HR.out.alloc _) o1 (.inl (by omega))) (by omega) (by omega)).mono ?_
    rintro e w2 ⟨rfl, hb2⟩
    have s2 := hb2.size
    simp at s2
    have z1 : w.heap.size < w2.heap.size := by omega
    obtain ⟨hz0, hz1⟩ := hz
    obtain ⟨hy0, hy1⟩ := hy
    have hwr : IntKind.i64.wrap (z + y) = z + y := wrapW (by omega) (by omega)
    have B3 : Below w.heap.size w (w2.alloc (.cells #[.int .i64 x, .int .i64 y, .string t] 62)) := by (repeat (first | (with_reducible exact Below.refl _ _) | (with_reducible assumption) | (with_reducible refine Below.drew ?_) | ((with_reducible refine balloc ?_ _ ?_); · (first | (simp; done) | (simp; omega) | omega)) | ((with_reducible refine bset ?_ _ ?_); · (first | (simp; done) | (simp; omega) | omega)) | (with_reducible refine bdrewN _ ?_) | ((with_reducible refine bcall ?_ (by assumption) ?_); · (first | (simp; done) | (simp; omega) | omega))))
    have p3 : (w2.alloc (.cells #[.int .i64 x, .int .i64 y, .string t] 62)).cell? ⟨b1, o1, none⟩ = some (.int .i64 z) := by rw [World.cell?_alloc_lt _ _ _ (by show b1 < w2.heap.size; omega)]; exact (hb2.cell (p := ⟨b1, o1, none⟩) (by simp; omega)).trans (by rw [World.cell?_alloc_lt _ _ _ l1]; exact p1)
    have r0 : (w2.alloc (.cells #[.int .i64 x, .int .i64 y, .string t] 62)).cell? ⟨w.heap.size, 0, none⟩ = some (.int .i64 0) := by rw [World.cell?_alloc_lt _ _ _ (by show w.heap.size < w2.heap.size; omega)]; exact (hb2.cell (p := ⟨w.heap.size, 0, none⟩) (by simp)).trans (by simp [go_sem])
    have f0 : (w2.alloc (.cells #[.int .i64 x, .int .i64 y, .string t] 62)).frozen? ⟨w.heap.size, 0, none⟩ = false := by rw [World.frozen?_alloc_past _ _ _ (by show w.heap.size < w2.heap.size; omega)]; exact (hb2.frozen (p := ⟨w.heap.size, 0, none⟩) (by simp)).trans (by simp [go_sem])
    have r1 : (w2.alloc (.cells #[.int .i64 x, .int .i64 y, .string t] 62)).cell? ⟨w.heap.size, 1, none⟩ = some (.int .i64 0) := by rw [World.cell?_alloc_lt _ _ _ (by show w.heap.size < w2.heap.size; omega)]; exact (hb2.cell (p := ⟨w.heap.size, 1, none⟩) (by simp)).trans (by simp [go_sem])
    have f1 : (w2.alloc (.cells #[.int .i64 x, .int .i64 y, .string t] 62)).frozen? ⟨w.heap.size, 1, none⟩ = false := by rw [World.frozen?_alloc_past _ _ _ (by show w.heap.size < w2.heap.size; omega)]; exact (hb2.frozen (p := ⟨w.heap.size, 1, none⟩) (by simp)).trans (by simp [go_sem])
    have r2 : (w2.alloc (.cells #[.int .i64 x, .int .i64 y, .string t] 62)).cell? ⟨w.heap.size, 2, none⟩ = some (.string ⟨#[]⟩) := by rw [World.cell?_alloc_lt _ _ _ (by show w.heap.size < w2.heap.size; omega)]; exact (hb2.cell (p := ⟨w.heap.size, 2, none⟩) (by simp)).trans (by simp [go_sem])
    have f2 : (w2.alloc (.cells #[.int .i64 x, .int .i64 y, .string t] 62)).frozen? ⟨w.heap.size, 2, none⟩ = false := by rw [World.frozen?_alloc_past _ _ _ (by show w.heap.size < w2.heap.size; omega)]; exact (hb2.frozen (p := ⟨w.heap.size, 2, none⟩) (by simp)).trans (by simp [go_sem])
    have c0 : (w2.alloc (.cells #[.int .i64 x, .int .i64 y, .string t] 62)).cell? ⟨w2.heap.size, 0, none⟩ = some (.int .i64 x) := by simp [go_sem]
    have c1 : (w2.alloc (.cells #[.int .i64 x, .int .i64 y, .string t] 62)).cell? ⟨w2.heap.size, 1, none⟩ = some (.int .i64 y) := by simp [go_sem]
    have c2 : (w2.alloc (.cells #[.int .i64 x, .int .i64 y, .string t] 62)).cell? ⟨w2.heap.size, 2, none⟩ = some (.string t) := by simp [go_sem]
    have z3 : w.heap.size < (w2.alloc (.cells #[.int .i64 x, .int .i64 y, .string t] 62)).heap.size := by simp; omega
    have l3 : b1 ≠ w.heap.size := by omega
    have l4 : b1 < w2.heap.size := by omega
    clear p1 hb2 s2 HG HR
    go_wp2
    generalize w2.alloc (.cells #[.int .i64 x, .int .i64 y, .string t] 62) = w3 at *
    generalize w2.heap.size = g at *
    refine wp_region_held_drew (S := (fun w' => w'.cell? ⟨b1, o1, none⟩ = some (.int .i64 z) ∧ w'.cell? ⟨g, 0, none⟩ = some (.int .i64 x) ∧ w'.cell? ⟨g, 1, none⟩ = some (.int .i64 y) ∧ w'.cell? ⟨g, 2, none⟩ = some (.string t))) (by kernel_rfl) ?_ (fun hHeld => ?_)
    · ((try dsimp only); (repeat' apply And.intro); all_goals ((repeat (first | (with_reducible refine cell_drew ?_) | (with_reducible refine cell_drewN _ ?_) | ((with_reducible refine cell_alloc ?_ ?_); · first | omega | (simp; done) | (simp; omega) | assumption) | ((with_reducible refine cell_set ?_ ?_); · first | (intro e; injection e; omega) | (intro e; simp at e; done) | (intro e; simp at e; omega)))); first | assumption | (simp; done)))
    refine reg_on (i := 0) (d := 10) (v := ?rv41) rfl rfl (by kernel_rfl) (by kernel_rfl) (by kernel_rfl) (fun _ _ _ h => h) (by rfl) ?ry41 (by assumption) ?rr41
    case ry41 => (intro wz hSw; (try dsimp only at hSw); go_simp; try with_reducible rfl)
    (try simp only [Act.put, List.setIfInBounds_toArray, List.set_cons_zero, List.set_cons_succ])
    refine reg_on (i := 1) (d := 11) (v := ?rv42) rfl rfl (by kernel_rfl) (by kernel_rfl) (by kernel_rfl) (fun _ _ _ h => h) (by rfl) ?ry42 (by assumption) ?rr42
    case ry42 => (intro wz hSw; (try dsimp only at hSw); go_simp; try with_reducible rfl)
    (try simp only [Act.put, List.setIfInBounds_toArray, List.set_cons_zero, List.set_cons_succ])
    refine reg_on (i := 2) (d := 12) (v := ?rv43) rfl rfl (by kernel_rfl) (by kernel_rfl) (by kernel_rfl) (fun _ _ _ h => h) (by rfl) ?ry43 (by assumption) ?rr43
    case ry43 => (intro wz hSw; (try dsimp only at hSw); go_simp; try with_reducible rfl)
    (try simp only [Act.put, List.setIfInBounds_toArray, List.set_cons_zero, List.set_cons_succ])
    refine reg_on (i := 3) (d := 13) (v := ?rv44) rfl rfl (by kernel_rfl) (by kernel_rfl) (by kernel_rfl) (fun _ _ _ h => h) (by rfl) ?ry44 (by assumption) ?rr44
    case ry44 => (intro wz hSw; (try dsimp only at hSw); go_simp; try with_reducible rfl)
    (try simp only [Act.put, List.setIfInBounds_toArray, List.set_cons_zero, List.set_cons_succ])
    refine reg_on (i := 4) (d := 14) (v := ?rv45) rfl rfl (by kernel_rfl) (by kernel_rfl) (by kernel_rfl) (fun _ _ _ h => h) (by rfl) ?ry45 (by assumption) ?rr45
    case ry45 => (intro wz hSw; (try dsimp only at hSw); go_simp; try with_reducible rfl)
    (try simp only [Act.put, List.setIfInBounds_toArray, List.set_cons_zero, List.set_cons_succ])
    refine reg_on (i := 5) (d := 15) (v := ?rv46) rfl rfl (by kernel_rfl) (by kernel_rfl) (by kernel_rfl) (fun _ _ _ h => h) (by rfl) ?ry46 (by assumption) ?rr46
    case ry46 => (intro wz hSw; (try dsimp only at hSw); go_simp; try with_reducible rfl)
    (try simp only [Act.put, List.setIfInBounds_toArray, List.set_cons_zero, List.set_cons_succ])
    refine reg_on (i := 6) (d := 16) (v := ?rv47) rfl rfl (by kernel_rfl) (by kernel_rfl) (by kernel_rfl) (fun _ _ _ h => h) (by rfl) ?ry47 (by assumption) ?rr47
    case ry47 => (intro wz hSw; (try dsimp only at hSw); go_simp; try with_reducible rfl)
    (try simp only [Act.put, List.setIfInBounds_toArray, List.set_cons_zero, List.set_cons_succ])
    refine reg_on (i := 7) (d := 17) (v := ?rv48) rfl rfl (by kernel_rfl) (by kernel_rfl) (by kernel_rfl) (fun _ _ _ h => h) (by rfl) ?ry48 (by assumption) ?rr48
    case ry48 => (intro wz hSw; (try dsimp only at hSw); go_simp; try with_reducible rfl)
    (try simp only [Act.put, List.setIfInBounds_toArray, List.set_cons_zero, List.set_cons_succ])
    refine reg_on (i := 8) (d := 18) (v := ?rv49) rfl rfl (by kernel_rfl) (by kernel_rfl) (by kernel_rfl) (fun _ _ _ h => h) (by rfl) ?ry49 (by assumption) ?rr49
    case ry49 => (intro wz hSw; (try dsimp only at hSw); go_simp; try with_reducible rfl)
    (try simp only [Act.put, List.setIfInBounds_toArray, List.set_cons_zero, List.set_cons_succ])
    refine reg_on (i := 9) (d := 19) (v := ?rv50) rfl rfl (by kernel_rfl) (by kernel_rfl) (by kernel_rfl) (fun _ _ _ h => h) (by rfl) ?ry50 (by assumption) ?rr50
    case ry50 => (intro wz hSw; (try dsimp only at hSw); go_simp; try with_reducible rfl)
    (try simp only [Act.put, List.setIfInBounds_toArray, List.set_cons_zero, List.set_cons_succ])
    refine reg_on (i := 10) (d := 20) (v := ?rv51) rfl rfl (by kernel_rfl) (by kernel_rfl) (by kernel_rfl) (fun _ _ _ h => h) (by rfl) ?ry51 (by assumption) ?rr51
    case ry51 => (intro wz hSw; (try dsimp only at hSw); go_simp; try with_reducible rfl)
    (try simp only [Act.put, List.setIfInBounds_toArray, List.set_cons_zero, List.set_cons_succ])
    refine reg_on (i := 11) (d := 21) (v := ?rv52) rfl rfl (by kernel_rfl) (by kernel_rfl) (by kernel_rfl) (fun _ _ _ h => h) (by rfl) ?ry52 (by assumption) ?rr52
    case ry52 => (intro wz hSw; (try dsimp only at hSw); go_simp; try with_reducible rfl)
    (try simp only [Act.put, List.setIfInBounds_toArray, List.set_cons_zero, List.set_cons_succ])
    refine wpAnyH_ready (rs := [12]) (by kernel_rfl) (by simp) ?_
    refine AllReadyH.cons rfl (fun K hK => ?_) AllReadyH.nil
    go_simp
    refine hK.out _ _ ?_ (fun hHeld => ?_)
    · ((try dsimp only); (repeat' apply And.intro); all_goals ((repeat (first | (with_reducible refine cell_drew ?_) | (with_reducible refine cell_drewN _ ?_) | ((with_reducible refine cell_alloc ?_ ?_); · first | omega | (simp; done) | (simp; omega) | assumption) | ((with_reducible refine cell_set ?_ ?_); · first | (intro e; injection e; omega) | (intro e; simp at e; done) | (intro e; simp at e; omega)))); first | assumption | (simp; done)))
    clear hK K
    (try simp only [Act.put, List.setIfInBounds_toArray, List.set_cons_zero, List.set_cons_succ])
    refine wpAnyH_done (by kernel_rfl) ?_ _
    go_wp2
    refine bodyPost_ret (v := tkV (z + y) x (⟨#[102]⟩ ++ t)) (by simp [results, Try.results79, go_sem, *]) rfl ⟨rfl, by (repeat (first | (with_reducible exact Below.refl _ _) | (with_reducible assumption) | (with_reducible refine Below.drew ?_) | ((with_reducible refine balloc ?_ _ ?_); · (first | (simp; done) | (simp; omega) | omega)) | ((with_reducible refine bset ?_ _ ?_); · (first | (simp; done) | (simp; omega) | omega)) | (with_reducible refine bdrewN _ ?_) | ((with_reducible refine bcall ?_ (by assumption) ?_); · (first | (simp; done) | (simp; omega) | omega))))⟩
  · go_enter Try.func79, Try.ntmps79
    go_wp2_with fail
    refine (HG.out (some ⟨b1, o1 + 1, none⟩) (c - 1) _ (Rd.tailW (HR.out.alloc _) (o1 + 1) (.inr rfl)) (by omega) (by omega)).mono ?_
    rintro e w2 ⟨rfl, hb2⟩
    have s2 := hb2.size
    simp at s2
    have z1 : w.heap.size < w2.heap.size := by omega
    obtain ⟨hz0, hz1⟩ := hz
    obtain ⟨hy0, hy1⟩ := hy
    have hwr : IntKind.i64.wrap (z + y) = z + y := wrapW (by omega) (by omega)
    have B3 : Below w.heap.size w (w2.alloc (.cells #[.int .i64 x, .int .i64 y, .string t] 62)) := by (repeat (first | (with_reducible exact Below.refl _ _) | (with_reducible assumption) | (with_reducible refine Below.drew ?_) | ((with_reducible refine balloc ?_ _ ?_); · (first | (simp; done) | (simp; omega) | omega)) | ((with_reducible refine bset ?_ _ ?_); · (first | (simp; done) | (simp; omega) | omega)) | (with_reducible refine bdrewN _ ?_) | ((with_reducible refine bcall ?_ (by assumption) ?_); · (first | (simp; done) | (simp; omega) | omega))))
    have p3 : (w2.alloc (.cells #[.int .i64 x, .int .i64 y, .string t] 62)).cell? ⟨b1, o1, none⟩ = some (.int .i64 z) := by rw [World.cell?_alloc_lt _ _ _ (by show b1 < w2.heap.size; omega)]; exact (hb2.cell (p := ⟨b1, o1, none⟩) (by simp; omega)).trans (by rw [World.cell?_alloc_lt _ _ _ l1]; exact p1)
    have r0 : (w2.alloc (.cells #[.int .i64 x, .int .i64 y, .string t] 62)).cell? ⟨w.heap.size, 0, none⟩ = some (.int .i64 0) := by rw [World.cell?_alloc_lt _ _ _ (by show w.heap.size < w2.heap.size; omega)]; exact (hb2.cell (p := ⟨w.heap.size, 0, none⟩) (by simp)).trans (by simp [go_sem])
    have f0 : (w2.alloc (.cells #[.int .i64 x, .int .i64 y, .string t] 62)).frozen? ⟨w.heap.size, 0, none⟩ = false := by rw [World.frozen?_alloc_past _ _ _ (by show w.heap.size < w2.heap.size; omega)]; exact (hb2.frozen (p := ⟨w.heap.size, 0, none⟩) (by simp)).trans (by simp [go_sem])
    have r1 : (w2.alloc (.cells #[.int .i64 x, .int .i64 y, .string t] 62)).cell? ⟨w.heap.size, 1, none⟩ = some (.int .i64 0) := by rw [World.cell?_alloc_lt _ _ _ (by show w.heap.size < w2.heap.size; omega)]; exact (hb2.cell (p := ⟨w.heap.size, 1, none⟩) (by simp)).trans (by simp [go_sem])
    have f1 : (w2.alloc (.cells #[.int .i64 x, .int .i64 y, .string t] 62)).frozen? ⟨w.heap.size, 1, none⟩ = false := by rw [World.frozen?_alloc_past _ _ _ (by show w.heap.size < w2.heap.size; omega)]; exact (hb2.frozen (p := ⟨w.heap.size, 1, none⟩) (by simp)).trans (by simp [go_sem])
    have r2 : (w2.alloc (.cells #[.int .i64 x, .int .i64 y, .string t] 62)).cell? ⟨w.heap.size, 2, none⟩ = some (.string ⟨#[]⟩) := by rw [World.cell?_alloc_lt _ _ _ (by show w.heap.size < w2.heap.size; omega)]; exact (hb2.cell (p := ⟨w.heap.size, 2, none⟩) (by simp)).trans (by simp [go_sem])
    have f2 : (w2.alloc (.cells #[.int .i64 x, .int .i64 y, .string t] 62)).frozen? ⟨w.heap.size, 2, none⟩ = false := by rw [World.frozen?_alloc_past _ _ _ (by show w.heap.size < w2.heap.size; omega)]; exact (hb2.frozen (p := ⟨w.heap.size, 2, none⟩) (by simp)).trans (by simp [go_sem])
    have c0 : (w2.alloc (.cells #[.int .i64 x, .int .i64 y, .string t] 62)).cell? ⟨w2.heap.size, 0, none⟩ = some (.int .i64 x) := by simp [go_sem]
    have c1 : (w2.alloc (.cells #[.int .i64 x, .int .i64 y, .string t] 62)).cell? ⟨w2.heap.size, 1, none⟩ = some (.int .i64 y) := by simp [go_sem]
    have c2 : (w2.alloc (.cells #[.int .i64 x, .int .i64 y, .string t] 62)).cell? ⟨w2.heap.size, 2, none⟩ = some (.string t) := by simp [go_sem]
    have z3 : w.heap.size < (w2.alloc (.cells #[.int .i64 x, .int .i64 y, .string t] 62)).heap.size := by simp; omega
    have l3 : b1 ≠ w.heap.size := by omega
    have l4 : b1 < w2.heap.size := by omega
    clear p1 hb2 s2 HG HR
    go_wp2
    generalize w2.alloc (.cells #[.int .i64 x, .int .i64 y, .string t] 62) = w3 at *
    generalize w2.heap.size = g at *
    refine wp_region_held_drew (S := (fun w' => w'.cell? ⟨b1, o1, none⟩ = some (.int .i64 z) ∧ w'.cell? ⟨g, 0, none⟩ = some (.int .i64 x) ∧ w'.cell? ⟨g, 1, none⟩ = some (.int .i64 y) ∧ w'.cell? ⟨g, 2, none⟩ = some (.string t))) (by kernel_rfl) ?_ (fun hHeld => ?_)
    · ((try dsimp only); (repeat' apply And.intro); all_goals ((repeat (first | (with_reducible refine cell_drew ?_) | (with_reducible refine cell_drewN _ ?_) | ((with_reducible refine cell_alloc ?_ ?_); · first | omega | (simp; done) | (simp; omega) | assumption) | ((with_reducible refine cell_set ?_ ?_); · first | (intro e; injection e; omega) | (intro e; simp at e; done) | (intro e; simp at e; omega)))); first | assumption | (simp; done)))
    refine reg_on (i := 0) (d := 10) (v := ?rv54) rfl rfl (by kernel_rfl) (by kernel_rfl) (by kernel_rfl) (fun _ _ _ h => h) (by rfl) ?ry54 (by assumption) ?rr54
    case ry54 => (intro wz hSw; (try dsimp only at hSw); go_simp; try with_reducible rfl)
    (try simp only [Act.put, List.setIfInBounds_toArray, List.set_cons_zero, List.set_cons_succ])
    refine reg_on (i := 1) (d := 11) (v := ?rv55) rfl rfl (by kernel_rfl) (by kernel_rfl) (by kernel_rfl) (fun _ _ _ h => h) (by rfl) ?ry55 (by assumption) ?rr55
    case ry55 => (intro wz hSw; (try dsimp only at hSw); go_simp; try with_reducible rfl)
    (try simp only [Act.put, List.setIfInBounds_toArray, List.set_cons_zero, List.set_cons_succ])
    refine reg_on (i := 2) (d := 12) (v := ?rv56) rfl rfl (by kernel_rfl) (by kernel_rfl) (by kernel_rfl) (fun _ _ _ h => h) (by rfl) ?ry56 (by assumption) ?rr56
    case ry56 => (intro wz hSw; (try dsimp only at hSw); go_simp; try with_reducible rfl)
    (try simp only [Act.put, List.setIfInBounds_toArray, List.set_cons_zero, List.set_cons_succ])
    refine reg_on (i := 3) (d := 13) (v := ?rv57) rfl rfl (by kernel_rfl) (by kernel_rfl) (by kernel_rfl) (fun _ _ _ h => h) (by rfl) ?ry57 (by assumption) ?rr57
    case ry57 => (intro wz hSw; (try dsimp only at hSw); go_simp; try with_reducible rfl)
    (try simp only [Act.put, List.setIfInBounds_toArray, List.set_cons_zero, List.set_cons_succ])
    refine reg_on (i := 4) (d := 14) (v := ?rv58) rfl rfl (by kernel_rfl) (by kernel_rfl) (by kernel_rfl) (fun _ _ _ h => h) (by rfl) ?ry58 (by assumption) ?rr58
    case ry58 => (intro wz hSw; (try dsimp only at hSw); go_simp; try with_reducible rfl)
    (try simp only [Act.put, List.setIfInBounds_toArray, List.set_cons_zero, List.set_cons_succ])
    refine reg_on (i := 5) (d := 15) (v := ?rv59) rfl rfl (by kernel_rfl) (by kernel_rfl) (by kernel_rfl) (fun _ _ _ h => h) (by rfl) ?ry59 (by assumption) ?rr59
    case ry59 => (intro wz hSw; (try dsimp only at hSw); go_simp; try with_reducible rfl)
    (try simp only [Act.put, List.setIfInBounds_toArray, List.set_cons_zero, List.set_cons_succ])
    refine reg_on (i := 6) (d := 16) (v := ?rv60) rfl rfl (by kernel_rfl) (by kernel_rfl) (by kernel_rfl) (fun _ _ _ h => h) (by rfl) ?ry60 (by assumption) ?rr60
    case ry60 => (intro wz hSw; (try dsimp only at hSw); go_simp; try with_reducible rfl)
    (try simp only [Act.put, List.setIfInBounds_toArray, List.set_cons_zero, List.set_cons_succ])
    refine reg_on (i := 7) (d := 17) (v := ?rv61) rfl rfl (by kernel_rfl) (by kernel_rfl) (by kernel_rfl) (fun _ _ _ h => h) (by rfl) ?ry61 (by assumption) ?rr61
    case ry61 => (intro wz hSw; (try dsimp only at hSw); go_simp; try with_reducible rfl)
    (try simp only [Act.put, List.setIfInBounds_toArray, List.set_cons_zero, List.set_cons_succ])
    refine reg_on (i := 8) (d := 18) (v := ?rv62) rfl rfl (by kernel_rfl) (by kernel_rfl) (by kernel_rfl) (fun _ _ _ h => h) (by rfl) ?ry62 (by assumption) ?rr62
    case ry62 => (intro wz hSw; (try dsimp only at hSw); go_simp; try with_reducible rfl)
    (try simp only [Act.put, List.setIfInBounds_toArray, List.set_cons_zero, List.set_cons_succ])
    refine reg_on (i := 9) (d := 19) (v := ?rv63) rfl rfl (by kernel_rfl) (by kernel_rfl) (by kernel_rfl) (fun _ _ _ h => h) (by rfl) ?ry63 (by assumption) ?rr63
    case ry63 => (intro wz hSw; (try dsimp only at hSw); go_simp; try with_reducible rfl)
    (try simp only [Act.put, List.setIfInBounds_toArray, List.set_cons_zero, List.set_cons_succ])
    refine reg_on (i := 10) (d := 20) (v := ?rv64) rfl rfl (by kernel_rfl) (by kernel_rfl) (by kernel_rfl) (fun _ _ _ h => h) (by rfl) ?ry64 (by assumption) ?rr64
    case ry64 => (intro wz hSw; (try dsimp only at hSw); go_simp; try with_reducible rfl)
    (try simp only [Act.put, List.setIfInBounds_toArray, List.set_cons_zero, List.set_cons_succ])
    refine reg_on (i := 11) (d := 21) (v := ?rv65) rfl rfl (by kernel_rfl) (by kernel_rfl) (by kernel_rfl) (fun _ _ _ h => h) (by rfl) ?ry65 (by assumption) ?rr65
    case ry65 => (intro wz hSw; (try dsimp only at hSw); go_simp; try with_reducible rfl)
    (try simp only [Act.put, List.setIfInBounds_toArray, List.set_cons_zero, List.set_cons_succ])
    refine wpAnyH_ready (rs := [12]) (by kernel_rfl) (by simp) ?_
    refine AllReadyH.cons rfl (fun K hK => ?_) AllReadyH.nil
    go_simp
    refine hK.out _ _ ?_ (fun hHeld => ?_)
    · ((try dsimp only); (repeat' apply And.intro); all_goals ((repeat (first | (with_reducible refine cell_drew ?_) | (with_reducible refine cell_drewN _ ?_) | ((with_reducible refine cell_alloc ?_ ?_); · first | omega | (simp; done) | (simp; omega) | assumption) | ((with_reducible refine cell_set ?_ ?_); · first | (intro e; injection e; omega) | (intro e; simp at e; done) | (intro e; simp at e; omega)))); first | assumption | (simp; done)))
    clear hK K
    (try simp only [Act.put, List.setIfInBounds_toArray, List.set_cons_zero, List.set_cons_succ])
    refine wpAnyH_done (by kernel_rfl) ?_ _
    go_wp2
    refine bodyPost_ret (v := tkV (z + y) x (⟨#[102]⟩ ++ t)) (by simp [results, Try.results79, go_sem, *]) rfl ⟨rfl, by (repeat (first | (with_reducible exact Below.refl _ _) | (with_reducible assumption) | (with_reducible refine Below.drew ?_) | ((with_reducible refine balloc ?_ _ ?_); · (first | (simp; done) | (simp; omega) | omega)) | ((with_reducible refine bset ?_ _ ?_); · (first | (simp; done) | (simp; omega) | omega)) | (with_reducible refine bdrewN _ ?_) | ((with_reducible refine bcall ?_ (by assumption) ?_); · (first | (simp; done) | (simp; omega) | omega))))⟩

set_option maxRecDepth 100000 in
set_option maxHeartbeats 2000000 in
theorem takeLastG_any (n c : Nat) (A : Option Addr) (l : List Int) (x y : Int) (t : ByteArray) (w : World) (hr : Rd w 1 A (n + 1) (intCells l)) (hn : n ≤ 20) (hc : n + 1 ≤ c) (hc2 : c ≤ 4000000000)
    (hx : 0 ≤ x ∧ x ≤ 100000) (hy : 0 ≤ y ∧ y ≤ 100000) (hz : 0 ≤ l.getD n 0 ∧ l.getD n 0 ≤ 1000) (ht : t.size ≤ 100)
    (hG : ∀ (A' : Option Addr) (c' : Nat) (w' : World), Rd w' 1 A' n (intCells l.dropLast) → n ≤ c' → c' ≤ 4000000000 → Calls Try.prog 59 #[.slice A' n c'] w' fun e w'' => e = .returned (tkV x y t) ∧ Below w'.heap.size w' w'') :
    Calls Try.prog 80 #[.slice A (n + 1) c, .func (.func 59) #[] #[]] w fun e w' => e = .returned (tkV (l.getD n 0 + y) x (⟨#[108]⟩ ++ t)) ∧ Below w.heap.size w w' := by
  obtain ⟨b1, o1, rfl, l1, hx0, p1⟩ := hr.num (show n < n + 1 by omega)
  have e0 : l[n] = l.getD n 0 := by rw [List.getD_eq_getElem?_getD, List.getElem?_eq_getElem hx0]; rfl
  rw [e0] at p1
  generalize l.getD n 0 = z at *
  clear e0 hx0
  have hts : (9223372036854775807 < 1 + t.size) = False := by simp; omega
  have hin : ((n : Int) < (n : Int) + 1) = True := by simp; omega
  have HG := Lib.hid hG
  have HR := Lib.hid hr
  clear hG hr
  go_enter Try.func80, Try.ntmps80
  go_wp2_with fail
  refine (HG.out (some ⟨b1, o1, none⟩) n _ (Rd.lastW (HR.out.alloc _)) (by omega) (by omega)).mono ?_
  rintro e w2 ⟨rfl, hb2⟩
  have s2 := hb2.size
  simp at s2
  have z1 : w.heap.size < w2.heap.size := by omega
  obtain ⟨hz0, hz1⟩ := hz
  obtain ⟨hy0, hy1⟩ := hy
  have hwr : IntKind.i64.wrap (z + y) = z + y := wrapW (by omega) (by omega)
  have B3 : Below w.heap.size w (w2.alloc (.cells #[.int .i64 x, .int .i64 y, .string t] 62)) := by (repeat (first | (with_reducible exact Below.refl _ _) | (with_reducible assumption) | (with_reducible refine Below.drew ?_) | ((with_reducible refine balloc ?_ _ ?_); · (first | (simp; done) | (simp; omega) | omega)) | ((with_reducible refine bset ?_ _ ?_); · (first | (simp; done) | (simp; omega) | omega)) | (with_reducible refine bdrewN _ ?_) | ((with_reducible refine bcall ?_ (by assumption) ?_); · (first | (simp; done) | (simp; omega) | omega))))
  have p3 : (w2.alloc (.cells #[.int .i64 x, .int .i64 y, .string t] 62)).cell? ⟨b1, o1 + n, none⟩ = some (.int .i64 z) := by rw [World.cell?_alloc_lt _ _ _ (by show b1 < w2.heap.size; omega)]; exact (hb2.cell (p := ⟨b1, o1 + n, none⟩) (by simp; omega)).trans (by rw [World.cell?_alloc_lt _ _ _ l1]; exact p1)
  have r0 : (w2.alloc (.cells #[.int .i64 x, .int .i64 y, .string t] 62)).cell? ⟨w.heap.size, 0, none⟩ = some (.int .i64 0) := by rw [World.cell?_alloc_lt _ _ _ (by show w.heap.size < w2.heap.size; omega)]; exact (hb2.cell (p := ⟨w.heap.size, 0, none⟩) (by simp)).trans (by simp [go_sem])
  have f0 : (w2.alloc (.cells #[.int .i64 x, .int .i64 y, .string t] 62)).frozen? ⟨w.heap.size, 0, none⟩ = false := by rw [World.frozen?_alloc_past _ _ _ (by show w.heap.size < w2.heap.size; omega)]; exact (hb2.frozen (p := ⟨w.heap.size, 0, none⟩) (by simp)).trans (by simp [go_sem])
  have r1 : (w2.alloc (.cells #[.int .i64 x, .int .i64 y, .string t] 62)).cell? ⟨w.heap.size, 1, none⟩ = some (.int .i64 0) := by rw [World.cell?_alloc_lt _ _ _ (by show w.heap.size < w2.heap.size; omega)]; exact (hb2.cell (p := ⟨w.heap.size, 1, none⟩) (by simp)).trans (by simp [go_sem])
  have f1 : (w2.alloc (.cells #[.int .i64 x, .int .i64 y, .string t] 62)).frozen? ⟨w.heap.size, 1, none⟩ = false := by rw [World.frozen?_alloc_past _ _ _ (by show w.heap.size < w2.heap.size; omega)]; exact (hb2.frozen (p := ⟨w.heap.size, 1, none⟩) (by simp)).trans (by simp [go_sem])
  have r2 : (w2.alloc (.cells #[.int .i64 x, .int .i64 y, .string t] 62)).cell? ⟨w.heap.size, 2, none⟩ = some (.string ⟨#[]⟩) := by rw [World.cell?_alloc_lt _ _ _ (by show w.heap.size < w2.heap.size; omega)]; exact (hb2.cell (p := ⟨w.heap.size, 2, none⟩) (by simp)).trans (by simp [go_sem])
  have f2 : (w2.alloc (.cells #[.int .i64 x, .int .i64 y, .string t] 62)).frozen? ⟨w.heap.size, 2, none⟩ = false := by rw [World.frozen?_alloc_past _ _ _ (by show w.heap.size < w2.heap.size; omega)]; exact (hb2.frozen (p := ⟨w.heap.size, 2, none⟩) (by simp)).trans (by simp [go_sem])
  have c0 : (w2.alloc (.cells #[.int .i64 x, .int .i64 y, .string t] 62)).cell? ⟨w2.heap.size, 0, none⟩ = some (.int .i64 x) := by simp [go_sem]
  have c1 : (w2.alloc (.cells #[.int .i64 x, .int .i64 y, .string t] 62)).cell? ⟨w2.heap.size, 1, none⟩ = some (.int .i64 y) := by simp [go_sem]
  have c2 : (w2.alloc (.cells #[.int .i64 x, .int .i64 y, .string t] 62)).cell? ⟨w2.heap.size, 2, none⟩ = some (.string t) := by simp [go_sem]
  have z3 : w.heap.size < (w2.alloc (.cells #[.int .i64 x, .int .i64 y, .string t] 62)).heap.size := by simp; omega
  have l3 : b1 ≠ w.heap.size := by omega
  have l4 : b1 < w2.heap.size := by omega
  clear p1 hb2 s2 HG HR
  go_wp2
  generalize w2.alloc (.cells #[.int .i64 x, .int .i64 y, .string t] 62) = w3 at *
  generalize w2.heap.size = g at *
  refine wp_region_held_drew (S := (fun w' => w'.cell? ⟨b1, o1 + n, none⟩ = some (.int .i64 z) ∧ w'.cell? ⟨g, 0, none⟩ = some (.int .i64 x) ∧ w'.cell? ⟨g, 1, none⟩ = some (.int .i64 y) ∧ w'.cell? ⟨g, 2, none⟩ = some (.string t))) (by kernel_rfl) ?_ (fun hHeld => ?_)
  · ((try dsimp only); (repeat' apply And.intro); all_goals ((repeat (first | (with_reducible refine cell_drew ?_) | (with_reducible refine cell_drewN _ ?_) | ((with_reducible refine cell_alloc ?_ ?_); · first | omega | (simp; done) | (simp; omega) | assumption) | ((with_reducible refine cell_set ?_ ?_); · first | (intro e; injection e; omega) | (intro e; simp at e; done) | (intro e; simp at e; omega)))); first | assumption | (simp; done)))
  refine reg_on (i := 0) (d := 16) (v := ?rv67) rfl rfl (by kernel_rfl) (by kernel_rfl) (by kernel_rfl) (fun _ _ _ h => h) (by rfl) ?ry67 (by assumption) ?rr67
  case ry67 => (intro wz hSw; (try dsimp only at hSw); go_simp; try with_reducible rfl)
  (try simp only [Act.put, List.setIfInBounds_toArray, List.set_cons_zero, List.set_cons_succ])
  refine reg_on (i := 1) (d := 17) (v := ?rv68) rfl rfl (by kernel_rfl) (by kernel_rfl) (by kernel_rfl) (fun _ _ _ h => h) (by rfl) ?ry68 (by assumption) ?rr68
  case ry68 => (intro wz hSw; (try dsimp only at hSw); go_simp; try with_reducible rfl)
  (try simp only [Act.put, List.setIfInBounds_toArray, List.set_cons_zero, List.set_cons_succ])
  refine reg_on (i := 2) (d := 18) (v := ?rv69) rfl rfl (by kernel_rfl) (by kernel_rfl) (by kernel_rfl) (fun _ _ _ h => h) (by rfl) ?ry69 (by assumption) ?rr69
  case ry69 => (intro wz hSw; (try dsimp only at hSw); go_simp; try with_reducible rfl)
  (try simp only [Act.put, List.setIfInBounds_toArray, List.set_cons_zero, List.set_cons_succ])
  refine reg_on (i := 3) (d := 19) (v := ?rv70) rfl rfl (by kernel_rfl) (by kernel_rfl) (by kernel_rfl) (fun _ _ _ h => h) (by rfl) ?ry70 (by assumption) ?rr70
  case ry70 => (intro wz hSw; (try dsimp only at hSw); go_simp; try with_reducible rfl)
  (try simp only [Act.put, List.setIfInBounds_toArray, List.set_cons_zero, List.set_cons_succ])
  refine reg_on (i := 4) (d := 20) (v := ?rv71) rfl rfl (by kernel_rfl) (by kernel_rfl) (by kernel_rfl) (fun _ _ _ h => h) (by rfl) ?ry71 (by assumption) ?rr71
  case ry71 => (intro wz hSw; (try dsimp only at hSw); go_simp; try with_reducible rfl)
  (try simp only [Act.put, List.setIfInBounds_toArray, List.set_cons_zero, List.set_cons_succ])
  refine reg_on (i := 5) (d := 21) (v := ?rv72) rfl rfl (by kernel_rfl) (by kernel_rfl) (by kernel_rfl) (fun _ _ _ h => h) (by rfl) ?ry72 (by assumption) ?rr72
  case ry72 => (intro wz hSw; (try dsimp only at hSw); go_simp; try with_reducible rfl)
  (try simp only [Act.put, List.setIfInBounds_toArray, List.set_cons_zero, List.set_cons_succ])
  refine reg_on (i := 6) (d := 22) (v := ?rv73) rfl rfl (by kernel_rfl) (by kernel_rfl) (by kernel_rfl) (fun _ _ _ h => h) (by rfl) ?ry73 (by assumption) ?rr73
  case ry73 => (intro wz hSw; (try dsimp only at hSw); go_simp; try with_reducible rfl)
  (try simp only [Act.put, List.setIfInBounds_toArray, List.set_cons_zero, List.set_cons_succ])
  refine reg_on (i := 7) (d := 23) (v := ?rv74) rfl rfl (by kernel_rfl) (by kernel_rfl) (by kernel_rfl) (fun _ _ _ h => h) (by rfl) ?ry74 (by assumption) ?rr74
  case ry74 => (intro wz hSw; (try dsimp only at hSw); go_simp; try with_reducible rfl)
  (try simp only [Act.put, List.setIfInBounds_toArray, List.set_cons_zero, List.set_cons_succ])
  refine reg_on (i := 8) (d := 24) (v := ?rv75) rfl rfl (by kernel_rfl) (by kernel_rfl) (by kernel_rfl) (fun _ _ _ h => h) (by rfl) ?ry75 (by assumption) ?rr75
  case ry75 => (intro wz hSw; (try dsimp only at hSw); go_simp; try with_reducible rfl)
  (try simp only [Act.put, List.setIfInBounds_toArray, List.set_cons_zero, List.set_cons_succ])
  refine reg_on (i := 9) (d := 25) (v := ?rv76) rfl rfl (by kernel_rfl) (by kernel_rfl) (by kernel_rfl) (fun _ _ _ h => h) (by rfl) ?ry76 (by assumption) ?rr76
  case ry76 => (intro wz hSw; (try dsimp only at hSw); go_simp; try with_reducible rfl)
  (try simp only [Act.put, List.setIfInBounds_toArray, List.set_cons_zero, List.set_cons_succ])
  refine reg_on (i := 10) (d := 26) (v := ?rv77) rfl rfl (by kernel_rfl) (by kernel_rfl) (by kernel_rfl) (fun _ _ _ h => h) (by rfl) ?ry77 (by assumption) ?rr77
  case ry77 => (intro wz hSw; (try dsimp only at hSw); go_simp; try with_reducible rfl)
  (try simp only [Act.put, List.setIfInBounds_toArray, List.set_cons_zero, List.set_cons_succ])
  refine reg_on (i := 11) (d := 27) (v := ?rv78) rfl rfl (by kernel_rfl) (by kernel_rfl) (by kernel_rfl) (fun _ _ _ h => h) (by rfl) ?ry78 (by assumption) ?rr78
  case ry78 => (intro wz hSw; (try dsimp only at hSw); go_simp; try with_reducible rfl)
  (try simp only [Act.put, List.setIfInBounds_toArray, List.set_cons_zero, List.set_cons_succ])
  refine reg_on (i := 12) (d := 28) (v := ?rv79) rfl rfl (by kernel_rfl) (by kernel_rfl) (by kernel_rfl) (fun _ _ _ h => h) (by rfl) ?ry79 (by assumption) ?rr79
  case ry79 => (intro wz hSw; (try dsimp only at hSw); go_simp; try with_reducible rfl)
  (try simp only [Act.put, List.setIfInBounds_toArray, List.set_cons_zero, List.set_cons_succ])
  refine wpAnyH_ready (rs := [13]) (by kernel_rfl) (by simp) ?_
  refine AllReadyH.cons rfl (fun K hK => ?_) AllReadyH.nil
  go_simp
  refine hK.out _ _ ?_ (fun hHeld => ?_)
  · ((try dsimp only); (repeat' apply And.intro); all_goals ((repeat (first | (with_reducible refine cell_drew ?_) | (with_reducible refine cell_drewN _ ?_) | ((with_reducible refine cell_alloc ?_ ?_); · first | omega | (simp; done) | (simp; omega) | assumption) | ((with_reducible refine cell_set ?_ ?_); · first | (intro e; injection e; omega) | (intro e; simp at e; done) | (intro e; simp at e; omega)))); first | assumption | (simp; done)))
  clear hK K
  (try simp only [Act.put, List.setIfInBounds_toArray, List.set_cons_zero, List.set_cons_succ])
  refine wpAnyH_done (by kernel_rfl) ?_ _
  go_wp2
  refine bodyPost_ret (v := tkV (z + y) x (⟨#[108]⟩ ++ t)) (by simp [results, Try.results80, go_sem, *]) rfl ⟨rfl, by (repeat (first | (with_reducible exact Below.refl _ _) | (with_reducible assumption) | (with_reducible refine Below.drew ?_) | ((with_reducible refine balloc ?_ _ ?_); · (first | (simp; done) | (simp; omega) | omega)) | ((with_reducible refine bset ?_ _ ?_); · (first | (simp; done) | (simp; omega) | omega)) | (with_reducible refine bdrewN _ ?_) | ((with_reducible refine bcall ?_ (by assumption) ?_); · (first | (simp; done) | (simp; omega) | omega))))⟩


end Go.Proofs.Ytkijcpbjjbhnhaa
