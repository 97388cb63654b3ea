/-
  Words and contracts: slices of slices of numbers: read, owned, marked; the laws' comparison, marks, copies of them.
-/
import Derived.Test.YtghlgmbekgfmnaaOpenI
import Derived.Test.YtghlgmbekgfmnaaReg
import Derived.OwnWalk
import Derived.Deep.Matrix
namespace Go.Proofs.Ytghlgmbekgfmnaa
open Go.ChangeShapes Go.WideShapes Go.ChangeAt Go.RowKit Go.Joins Go.Deep
set_option linter.unusedVariables false

/-- the values of n rows -/
def ssCells (A : Nat → Option Addr) (C : Nat → Nat) (R : Nat → List Int) (n : Nat) : List Value := (List.range n).map fun i => .slice (A i) (R i).length (C i)
theorem length_ssCells (A : Nat → Option Addr) (C : Nat → Nat) (R : Nat → List Int) (n : Nat) : (ssCells A C R n).length = n := by simp [ssCells]
theorem ssCells_at {A : Nat → Option Addr} {C : Nat → Nat} {R : Nat → List Int} {n i : Nat} (h : i < n) : (ssCells A C R n)[i]? = some (.slice (A i) (R i).length (C i)) := by simp [ssCells, h]
theorem ssCells_succ (A : Nat → Option Addr) (C : Nat → Nat) (R : Nat → List Int) (n : Nat) : ssCells A C R (n + 1) = ssCells A C R n ++ [.slice (A n) (R n).length (C n)] := by simp [ssCells, List.range_succ]
theorem ssCells_congr {A A' : Nat → Option Addr} {C C' : Nat → Nat} {R R' : Nat → List Int} {n : Nat} (h : ∀ i, i < n → A i = A' i ∧ C i = C' i ∧ (R i).length = (R' i).length) : ssCells A C R n = ssCells A' C' R' n := by
  apply List.map_congr_left
  intro i hi
  obtain ⟨h1, h2, h3⟩ := h i (List.mem_range.1 hi)
  rw [h1, h2, h3]
theorem ssCells_set {A : Nat → Option Addr} {C : Nat → Nat} {R : Nat → List Int} {n k : Nat} (a : Option Addr) (c : Nat) (l : List Int) : (ssCells A C R n).set k (.slice a l.length c) = ssCells (fun i => if i = k then a else A i) (fun i => if i = k then c else C i) (fun i => if i = k then l else R i) n := by
  apply List.ext_getElem
  · simp [ssCells]
  · intro j h1 h2
    rw [List.getElem_set]
    simp only [ssCells, List.getElem_map, List.getElem_range]
    by_cases e : k = j
    · subst e; simp
    · have e' : ¬ j = k := fun q => e q.symm
      simp [e, e']
theorem ss_oneCell (A : Nat → Option Addr) (C : Nat → Nat) (R : Nat → List Int) (n : Nat) : ∀ u ∈ ssCells A C R n, u.oneCell' = true := by
  intro u hu; simp [ssCells] at hu; obtain ⟨s, _, rfl⟩ := hu; rfl

/-- the slice at Ad reads as n rows R -/
def RdSS (w : World) (Ad : Option Addr) (n : Nat) (R : Nat → List Int) : Prop := ∃ A C, Rd w 1 Ad n (ssCells A C R n) ∧ ∀ i, i < n → Rd w 1 (A i) (R i).length (intCells (R i))
theorem RdSS.later {w w' : World} {Ad : Option Addr} {n : Nat} {R : Nat → List Int} (h : RdSS w Ad n R) {B : Nat} (hb : Below B w w') (hB : w.heap.size ≤ B) : RdSS w' Ad n R := by
  obtain ⟨A, C, h1, h2⟩ := h
  exact ⟨A, C, h1.later hb hB, fun i hi => (h2 i hi).later hb hB⟩
theorem RdSS.congr {w : World} {Ad : Option Addr} {n : Nat} {R R' : Nat → List Int} (h : RdSS w Ad n R) (hR : ∀ i, i < n → R i = R' i) : RdSS w Ad n R' := by
  obtain ⟨A, C, h1, h2⟩ := h
  exact ⟨A, C, by rw [← ssCells_congr (R := R) (R' := R') (fun i hi => ⟨rfl, rfl, by rw [hR i hi]⟩)]; exact h1, fun i hi => by rw [← hR i hi]; exact h2 i hi⟩
theorem RdSS.row {w : World} {Ad : Option Addr} {n i : Nat} {R : Nat → List Int} (h : RdSS w Ad n R) (hi : i < n) :
    ∃ b o, Ad = some ⟨b, o, none⟩ ∧ b < w.heap.size ∧ ∃ a c, w.cell? ⟨b, o + i, none⟩ = some (.slice a (R i).length c) ∧ Rd w 1 a (R i).length (intCells (R i)) := by
  obtain ⟨A, C, h1, h2⟩ := h
  obtain ⟨b, o, e, hl, hc⟩ := h1.2 (by omega)
  exact ⟨b, o, e, hl, A i, C i, hc _ _ (ssCells_at hi), h2 i hi⟩

/-- n rows R in memory of their own, each apart from the others -/
structure OwnAC (w : World) (B : Nat) (v : Value) (n : Nat) (A : Nat → Option Addr) (C : Nat → Nat) (R : Nat → List Int) : Prop where
  top : w.ownsRow B 39 1 v n (ssCells A C R n)
  row : ∀ i, i < n → w.ownsRow B 3 1 (.slice (A i) (R i).length (C i)) (R i).length (intCells (R i))
  apart : ∀ i j, i < n → j < n → i ≠ j → (Value.slice (A i) (R i).length (C i)).ownBlock = none ∨ (Value.slice (A i) (R i).length (C i)).ownBlock ≠ (Value.slice (A j) (R j).length (C j)).ownBlock
def OwnSS (w : World) (B : Nat) (v : Value) (n : Nat) (R : Nat → List Int) : Prop := ∃ A C, OwnAC w B v n A C R

theorem ob_len (a : Option Addr) (n m c d : Nat) : (Value.slice a n c).ownBlock = (Value.slice a m d).ownBlock := by cases a <;> rfl
/-- rows of different element types lie in different blocks -/
theorem own_types {w : World} {B B' e e' z z' n n' : Nat} {v v' : Value} {xs xs' : List Value} (h : w.ownsRow B e z v n xs) (h' : w.ownsRow B' e' z' v' n' xs') (he : e ≠ e') : v.ownBlock = none ∨ v.ownBlock ≠ v'.ownBlock := by
  rcases h.2 with ⟨rfl, _⟩ | ⟨g, cap, cur, rfl, _, hg, _⟩
  · exact .inl rfl
  · rcases h'.2 with ⟨rfl, _⟩ | ⟨g', cap', cur', rfl, _, hg', _⟩
    · exact .inr (by simp [Value.ownBlock])
    · refine .inr ?_
      simp only [Value.ownBlock, ne_eq, Option.some.injEq]
      rintro rfl
      rw [hg] at hg'
      simp only [Option.some.injEq, Obj.cells.injEq] at hg'
      exact he hg'.2.1
theorem tt_ne : (39 : Nat) ≠ 3 := by decide

theorem OwnSS.nil (w : World) (B : Nat) (R : Nat → List Int) : OwnSS w B (.slice none 0 0) 0 R := ⟨fun _ => none, fun _ => 0, World.ownsRow_nil _ _ _ _, fun i hi => absurd hi (by omega), fun i _ hi => absurd hi (by omega)⟩
theorem OwnSS.congr {w : World} {B n : Nat} {v : Value} {R R' : Nat → List Int} (h : OwnSS w B v n R) (hR : ∀ i, i < n → R i = R' i) : OwnSS w B v n R' := by
  obtain ⟨A, C, h1, h2, h3⟩ := h
  exact ⟨A, C, by rw [← ssCells_congr (R := R) (R' := R') (fun i hi => ⟨rfl, rfl, by rw [hR i hi]⟩)]; exact h1, fun i hi => by rw [← hR i hi]; exact h2 i hi, fun i j hi hj hij => by rw [← hR i hi, ← hR j hj]; exact h3 i j hi hj hij⟩
theorem OwnSS.rd {w : World} {B n c : Nat} {Ad : Option Addr} {R : Nat → List Int} (h : OwnSS w B (.slice Ad n c) n R) : RdSS w Ad n R := by
  obtain ⟨A, C, h1, h2, h3⟩ := h
  exact ⟨A, C, Rd.of_own h1, fun i hi => Rd.of_own (h2 i hi)⟩
theorem OwnSS.later {w w' : World} {B n c : Nat} {Ad : Option Addr} {R : Nat → List Int} (h : OwnSS w B (.slice Ad n c) n R) {B' : Nat} (hb : Below B' w w') (hB : w.heap.size ≤ B') : OwnSS w' B (.slice Ad n c) n R := by
  obtain ⟨A, C, h1, h2, h3⟩ := h
  exact ⟨A, C, own_later h1 hb hB, fun i hi => own_later (h2 i hi) hb hB, h3⟩
theorem OwnSS.base {w : World} {B B' n : Nat} {v : Value} {R : Nat → List Int} (h : OwnSS w B v n R) (hB : B' ≤ B) : OwnSS w B' v n R := by
  obtain ⟨A, C, h1, h2, h3⟩ := h
  exact ⟨A, C, own_base h1 hB, fun i hi => own_base (h2 i hi) hB, h3⟩
/-- growth beside a row that lies outside -/
theorem OwnSS.kept {w w' : World} {B n : Nat} {v : Value} {R : Nat → List Int} (h : OwnSS w B v n R) {q : Option Nat} (hg : w.grownBy w' q) (hq : ∀ g, q = some g → g < B ∨ w.heap.size ≤ g) : OwnSS w' B v n R := by
  obtain ⟨A, C, h1, h2, h3⟩ := h
  have key : ∀ {e z m : Nat} {u : Value} {xs : List Value}, w.ownsRow B e z u m xs → u.ownBlock = none ∨ u.ownBlock ≠ q := fun {e z m u xs} k => by
    rcases hu : u.ownBlock with _ | g
    · exact .inl rfl
    · refine .inr fun e => ?_
      have a := k.lt g hu
      have b := hq g e.symm
      omega
  exact ⟨A, C, h1.kept hg (key h1), fun i hi => (h2 i hi).kept hg (key (h2 i hi)), h3⟩
/-- one more row behind the others -/
theorem OwnAC.snoc {w w' : World} {B n : Nat} {v v' : Value} {A : Nat → Option Addr} {C : Nat → Nat} {R : Nat → List Int} {a : Option Addr} {c : Nat} {l : List Int} (h : OwnAC w B v n A C R) (hw : w.ownsRow B 3 1 (.slice a l.length c) l.length (intCells l))
    (hfar : ∀ i, i < n → (Value.slice (A i) (R i).length (C i)).ownBlock = none ∨ (Value.slice (A i) (R i).length (C i)).ownBlock ≠ (Value.slice a l.length c).ownBlock)
    (hg : w.grownBy w' v.ownBlock) (ht : w'.ownsRow B 39 1 v' (n + 1) (ssCells A C R n ++ [.slice a l.length c])) : OwnSS w' B v' (n + 1) (fun i => if i = n then l else R i) := by
  refine ⟨fun i => if i = n then a else A i, fun i => if i = n then c else C i, ?_, fun i hi => ?_, fun i j hi hj hij => ?_⟩
  · rw [ssCells_succ]
    simp only [if_true]
    rw [ssCells_congr (A' := A) (C' := C) (R' := R) (fun i hi => by simp [show ¬ i = n by omega])]
    exact ht
  · by_cases e : i = n
    · subst e
      simp only [if_true]
      exact hw.kept hg (own_types hw h.top (fun q => tt_ne q.symm))
    · simp only [if_neg e]
      exact (h.row i (by omega)).kept hg (own_types (h.row i (by omega)) h.top (fun q => tt_ne q.symm))
  · by_cases e : i = n
    · subst e
      have e2 : ¬ j = i := fun q => hij q.symm
      simp only [if_true, if_neg e2]
      rcases hfar j (by omega) with q | q
      · rcases hb : (Value.slice a l.length c).ownBlock with _ | g
        · exact .inl rfl
        · exact .inr (by rw [q]; simp)
      · exact .inr (fun r => q r.symm)
    · by_cases e2 : j = n
      · subst e2
        simp only [if_true, if_neg e]
        exact hfar i (by omega)
      · simp only [if_neg e, if_neg e2]
        exact h.apart i j (by omega) (by omega) hij

def pre (R : Nat → List Int) : Nat → Nat
  | 0 => 0
  | i + 1 => pre R i + (R i).length
theorem pre_mono (R : Nat → List Int) {i j : Nat} (h : i ≤ j) : pre R i ≤ pre R j := by
  induction j with
  | zero => have : i = 0 := by omega
            subst this; exact Nat.le_refl _
  | succ j ih =>
    by_cases e : i = j + 1
    · subst e; exact Nat.le_refl _
    · have := ih (by omega); simp only [pre]; omega
theorem pre_le6 {R : Nat → List Int} (h : ∀ i, (R i).length ≤ 6) (n : Nat) : pre R n ≤ 6 * n := by
  induction n with
  | zero => simp [pre]
  | succ n ih => have := h n; simp only [pre]; omega
theorem pre_congr {R R' : Nat → List Int} {n : Nat} (h : ∀ i, i < n → (R i).length = (R' i).length) : pre R n = pre R' n := by
  induction n with
  | zero => rfl
  | succ n ih => simp only [pre]; rw [ih (fun i hi => h i (by omega)), h n (by omega)]
theorem length_marks1 (k0 : Int) (n : Nat) : (marks1 k0 n).length = n := by simp [marks1]
/-- the rows as the laws mark them -/
def markR (k0 : Int) (R : Nat → List Int) : Nat → List Int := fun i => marks1 (k0 + (pre R i : Nat)) (R i).length

set_option maxRecDepth 100000 in
set_option maxHeartbeats 2000000 in
theorem eqIntSS_same (P Q : Option Addr) (n c d : Nat) (R : Nat → List Int) (w : World) (ha : RdSS w P n R) (hb : RdSS w Q n R) (hn : n ≤ 1000000000) (hR : ∀ i, i < n → (R i).length ≤ 1000000000) :
    Calls Try.prog 32 #[.slice P n c, .slice Q n d] w fun e w' => e = .returned (.bool true) ∧ Below w.heap.size w w' := by
  have HR := Lib.hid hR
  clear hR
  go_enter Try.func32, Try.ntmps32
  go_wp2
  go_loopw [5] (fun i wr => ∃ k : Nat, k ≤ n ∧ i = .int .i64 k ∧ Below w.heap.size w wr) (fun i _ => n - (intOf i).toNat)
  case atStart => exact ⟨0, Nat.zero_le _, rfl, Below.refl _ _⟩
  case round =>
    obtain ⟨k, hk, rfl, hB⟩ := hrel
    have sB := hB.size
    by_cases hlt : k < n
    · obtain ⟨b1, o1, rfl, l1, a1, c1, p1, r1⟩ := (ha.later hB (Nat.le_refl _)).row hlt
      obtain ⟨b2, o2, rfl, l2, a2, c2, p2, r2⟩ := (hb.later hB (Nat.le_refl _)).row hlt
      have hl := HR.out k hlt
      generalize hq : R k = q at *
      have HE := Lib.hid (fun (wx : World) (h1 : Rd wx 1 a1 q.length (intCells q)) (h2 : Rd wx 1 a2 q.length (intCells q)) => eqIntS_same a1 a2 q.length c1 q.length c2 q wx h1 h2 (by omega) (by omega))
      have R1 := Lib.hid r1
      have R2 := Lib.hid r2
      clear hq r1 r2
      go_wp2
      refine wp_region_held_drew (S := (fun w' => w'.cell? ⟨b1, o1 + k, none⟩ = some (.slice a1 q.length c1) ∧ w'.cell? ⟨b2, o2 + k, none⟩ = some (.slice a2 q.length c2))) (by kernel_rfl) ?_ (fun hHeld => ?_)
      · ((try dsimp only); (repeat' apply And.intro); all_goals ((repeat (first | (with_reducible refine cell_drew ?_) | (with_reducible refine cell_drewN _ ?_) | ((with_reducible refine cell_alloc ?_ ?_); · first | omega | (simp; done) | (simp; omega) | assumption) | ((with_reducible refine cell_set ?_ ?_); · first | (intro e; injection e; omega) | (intro e; simp at e; done) | (intro e; simp at e; omega)))); first | assumption | (simp; done)))
      refine reg_on (i := 0) (d := 17) (v := ?rv1) rfl rfl (by kernel_rfl) (by kernel_rfl) (by kernel_rfl) (fun _ _ _ h => h) (by rfl) ?ry1 (by assumption) ?rr1
      case ry1 => (intro wz hSw; (try dsimp only at hSw); go_simp; try with_reducible rfl)
      (try simp only [Act.put, List.setIfInBounds_toArray, List.set_cons_zero, List.set_cons_succ])
      refine reg_on (i := 1) (d := 18) (v := ?rv2) rfl rfl (by kernel_rfl) (by kernel_rfl) (by kernel_rfl) (fun _ _ _ h => h) (by rfl) ?ry2 (by assumption) ?rr2
      case ry2 => (intro wz hSw; (try dsimp only at hSw); go_simp; try with_reducible rfl)
      (try simp only [Act.put, List.setIfInBounds_toArray, List.set_cons_zero, List.set_cons_succ])
      refine reg_on (i := 2) (d := 19) (v := ?rv3) rfl rfl (by kernel_rfl) (by kernel_rfl) (by kernel_rfl) (fun _ _ _ h => h) (by rfl) ?ry3 (by assumption) ?rr3
      case ry3 => (intro wz hSw; (try dsimp only at hSw); go_simp; try with_reducible rfl)
      (try simp only [Act.put, List.setIfInBounds_toArray, List.set_cons_zero, List.set_cons_succ])
      refine reg_on (i := 3) (d := 20) (v := ?rv4) rfl rfl (by kernel_rfl) (by kernel_rfl) (by kernel_rfl) (fun _ _ _ h => h) (by rfl) ?ry4 (by assumption) ?rr4
      case ry4 => (intro wz hSw; (try dsimp only at hSw); go_simp; try with_reducible rfl)
      (try simp only [Act.put, List.setIfInBounds_toArray, List.set_cons_zero, List.set_cons_succ])
      refine reg_on (i := 4) (d := 21) (v := ?rv5) rfl rfl (by kernel_rfl) (by kernel_rfl) (by kernel_rfl) (fun _ _ _ h => h) (by rfl) ?ry5 (by assumption) ?rr5
      case ry5 => (intro wz hSw; (try dsimp only at hSw); go_simp; try with_reducible rfl)
      (try simp only [Act.put, List.setIfInBounds_toArray, List.set_cons_zero, List.set_cons_succ])
      refine reg_on (i := 5) (d := 22) (v := ?rv6) rfl rfl (by kernel_rfl) (by kernel_rfl) (by kernel_rfl) (fun _ _ _ h => h) (by rfl) ?ry6 (by assumption) ?rr6
      case ry6 => (intro wz hSw; (try dsimp only at hSw); go_simp; try with_reducible rfl)
      (try simp only [Act.put, List.setIfInBounds_toArray, List.set_cons_zero, List.set_cons_succ])
      refine reg_on (i := 6) (d := 23) (v := ?rv7) rfl rfl (by kernel_rfl) (by kernel_rfl) (by kernel_rfl) (fun _ _ _ h => h) (by rfl) ?ry7 (by assumption) ?rr7
      case ry7 => (intro wz hSw; (try dsimp only at hSw); go_simp; try with_reducible rfl)
      (try simp only [Act.put, List.setIfInBounds_toArray, List.set_cons_zero, List.set_cons_succ])
      refine reg_on (i := 7) (d := 24) (v := ?rv8) rfl rfl (by kernel_rfl) (by kernel_rfl) (by kernel_rfl) (fun _ _ _ h => h) (by rfl) ?ry8 (by assumption) ?rr8
      case ry8 => (intro wz hSw; (try dsimp only at hSw); go_simp; try with_reducible rfl)
      (try simp only [Act.put, List.setIfInBounds_toArray, List.set_cons_zero, List.set_cons_succ])
      refine wpAnyH_ready (rs := [8]) (by kernel_rfl) (by simp) ?_
      refine AllReadyH.cons rfl (fun K hK => ?_) AllReadyH.nil
      go_simp
      go_at_call 29; refine (HE.out _ (by exact R1.out) (by exact R2.out)).mono ?_; rintro e w1 ⟨rfl, hb1⟩; have s1 := hb1.size; (try simp at s1); have zz1 : b1 < w1.heap.size := (by omega); have zz2 : b2 < w1.heap.size := (by omega); have k1 : w1.cell? ⟨b1, o1 + k, none⟩ = some (.slice a1 q.length c1) := (hb1.cell (p := ⟨b1, o1 + k, none⟩) (by exact l1)).trans (by first | assumption | (go_split_ands; assumption)); have k2 : w1.cell? ⟨b2, o2 + k, none⟩ = some (.slice a2 q.length c2) := (hb1.cell (p := ⟨b2, o2 + k, none⟩) (by exact l2)).trans (by first | assumption | (go_split_ands; assumption))
      refine hK.out _ _ ?_ (fun hHeld => ?_)
      · ((try dsimp only); (repeat' apply And.intro); all_goals ((repeat (first | (with_reducible refine cell_drew ?_) | (with_reducible refine cell_drewN _ ?_) | ((with_reducible refine cell_alloc ?_ ?_); · first | omega | (simp; done) | (simp; omega) | assumption) | ((with_reducible refine cell_set ?_ ?_); · first | (intro e; injection e; omega) | (intro e; simp at e; done) | (intro e; simp at e; omega)))); first | assumption | (simp; done)))
      clear hK K
      (try simp only [Act.put, List.setIfInBounds_toArray, List.set_cons_zero, List.set_cons_succ])
      refine reg_on (i := 9) (d := 26) (v := ?rv10) rfl rfl (by kernel_rfl) (by kernel_rfl) (by kernel_rfl) (fun _ _ _ h => h) (by rfl) ?ry10 (by assumption) ?rr10
      case ry10 => (intro wz hSw; (try dsimp only at hSw); go_simp; try with_reducible rfl)
      (try simp only [Act.put, List.setIfInBounds_toArray, List.set_cons_zero, List.set_cons_succ])
      refine wpAnyH_done (by kernel_rfl) ?_ _
      have hB1 : Below w.heap.size w w1 := bcall (show w.heap.size ≤ wr.drew.heap.size from sB) hb1 hB.drew
      clear hb1
      go_wp2
      go_roundw
      case rel => exact ⟨k + 1, by omega, by go_num, hB1⟩
      case measure => simp [intOf]; omega
    · go_wp2
      go_ret
      exact ⟨rfl, hB⟩

set_option maxRecDepth 100000 in
set_option maxHeartbeats 2000000 in
theorem markIntSS_any (Ad : Option Addr) (n c B : Nat) (k0 : Int) (R : Nat → List Int) (w : World) (ho : OwnSS w B (.slice Ad n c) n R) (hn : n ≤ 1000000) (hR : pre R n ≤ 100000000) (h0 : 0 ≤ k0) (h1 : k0 ≤ 100000000) :
    Calls Try.prog 34 #[.slice Ad n c, .int .i64 k0] w fun e w' => e = .returned (.int .i64 (k0 + (pre R n : Nat))) ∧ OwnSS w' B (.slice Ad n c) n (markR k0 R) ∧ Below B w w' := by
  obtain ⟨A, C, ho⟩ := ho
  have HO := Lib.hid ho
  clear ho
  go_enter Try.func34, Try.ntmps34
  go_wp2
  go_loopw [1, 5] (fun q i wr => ∃ (k : Nat), k ≤ n ∧ i = .int .i64 k ∧ q = .int .i64 (k0 + (pre R k : Nat)) ∧ OwnAC wr B (.slice Ad n c) n A C (fun i => if i < k then markR k0 R i else R i) ∧ Below B w wr) (fun _ i _ => n - (intOf i).toNat)
  case atStart => exact ⟨0, Nat.zero_le _, rfl, by simp [pre], by simpa using HO.out, Below.refl _ _⟩
  case round =>
    clear HO
    obtain ⟨k, hk, rfl, rfl, hown, hB⟩ := hrel
    have HOW := Lib.hid hown
    have hpk := pre_mono R hk
    by_cases hlt : k < n
    · have hpk1 := pre_mono R (show k + 1 ≤ n by omega)
      have hps : Hid (pre R (k + 1) = pre R k + (R k).length) := rfl
      have hlen : (R k).length ≤ 100000000 := by have := hps.out; omega
      obtain ⟨g, rfl, hg1, hg2⟩ := own_at hown.top (by omega)
      have a0 := hown.top.cellAt k (by omega)
      rw [ssCells_at hlt] at a0
      have hrow := hown.row k hlt
      simp only [Nat.lt_irrefl, if_false] at a0 hrow
      have HRW := Lib.hid hrow
      have HM := Lib.hid (fun wx h => markIntS_any (A k) (R k).length (C k) B (k0 + (pre R k : Nat)) (R k) wx h (by omega) (by omega) (by omega))
      clear hrow hown
      go_wp2_with fail
      refine (HM.out _ HRW.out).mono ?_; rintro e w3 ⟨rfl, own3, hb3, hg3⟩
      have hown3 : OwnAC w3 B (.slice (some ⟨g, 0, none⟩) n c) n A C (fun i => if i < k + 1 then markR k0 R i else R i) := by
        have hle : ∀ i, (if i < k then markR k0 R i else R i).length = (if i < k + 1 then markR k0 R i else R i).length := fun i => by
          split <;> split <;> simp [markR, length_marks1]
        refine ⟨?_, fun i hi => ?_, fun i j hi hj hij => ?_⟩
        · rw [← ssCells_congr (fun i hi => ⟨rfl, rfl, hle i⟩)]
          exact HOW.out.top.kept hg3 (own_types HOW.out.top HRW.out tt_ne)
        · by_cases e : i = k
          · subst e
            simp only [Nat.lt_succ_self, if_true, markR, length_marks1]
            exact own3
          · have q := HOW.out.row i hi
            have q2 := HOW.out.apart i k hi hlt e
            simp only [Nat.lt_irrefl, if_false] at q2
            have q3 := q.kept hg3 q2
            have e2 : (if i < k + 1 then markR k0 R i else R i) = (if i < k then markR k0 R i else R i) := by
              by_cases e3 : i < k
              · rw [if_pos e3, if_pos (by omega)]
              · rw [if_neg e3, if_neg (by omega)]
            rw [e2]
            exact q3
        · have q := HOW.out.apart i j hi hj hij
          rw [ob_len _ _ (if i < k + 1 then markR k0 R i else R i).length _ (C i), ob_len (A j) _ (if j < k + 1 then markR k0 R j else R j).length _ (C j)] at q
          exact q
      have HO3 := Lib.hid hown3
      have HB3 := Lib.hid (hB.trans hb3)
      clear hown3 own3 hg3 hb3 hB HOW
      have hsum : k0 + ((pre R k : Nat) : Int) + ((R k).length : Int) = k0 + ((pre R (k + 1) : Nat) : Int) := by rw [hps.out]; simp; omega
      go_wp2
      go_roundw
      case rel => exact ⟨k + 1, by omega, by go_num, by rw [← hsum], HO3.out, HB3.out⟩
      case measure => simp [intOf]; omega
    · go_wp2
      go_ret
      have hkn : k = n := by omega
      subst hkn
      exact ⟨rfl, OwnSS.congr ⟨A, C, hown⟩ (fun i hi => by rw [if_pos hi]), hB⟩

set_option maxRecDepth 100000 in
set_option maxHeartbeats 2000000 in
theorem heldIntSS_any (Ad : Option Addr) (n c : Nat) (k0 : Int) (R : Nat → List Int) (w : World) (ho : RdSS w Ad n (markR k0 R)) (hn : n ≤ 1000000) (hR : pre R n ≤ 100000000) (h0 : 0 ≤ k0) (h1 : k0 ≤ 100000000) :
    Calls Try.prog 35 #[.slice Ad n c, .int .i64 k0] w fun e w' => e = .returned (.int .i64 (k0 + (pre R n : Nat))) ∧ w = w' := by
  go_enter Try.func35, Try.ntmps35
  go_wp2
  go_loop [1, 5] (fun q i => ∃ (k : Nat), k ≤ n ∧ i = .int .i64 k ∧ q = .int .i64 (k0 + (pre R k : Nat))) (fun _ i => n - (intOf i).toNat)
  case atStart => exact ⟨0, Nat.zero_le _, rfl, by simp [pre]⟩
  case round =>
    obtain ⟨k, hk, rfl, rfl⟩ := hrel
    have hpk := pre_mono R hk
    by_cases hlt : k < n
    · have hpk1 := pre_mono R (show k + 1 ≤ n by omega)
      have hps : Hid (pre R (k + 1) = pre R k + (R k).length) := rfl
      have hlen : (R k).length ≤ 100000000 := by have := hps.out; omega
      obtain ⟨b, o, rfl, l1, a, cc, p1, r1⟩ := ho.row hlt
      simp only [markR, length_marks1] at p1 r1
      have HM := Lib.hid (heldIntS_any a (R k).length cc (k0 + (pre R k : Nat)) w r1 (by omega) (by omega) (by omega))
      have hsum : k0 + ((pre R k : Nat) : Int) + ((R k).length : Int) = k0 + ((pre R (k + 1) : Nat) : Int) := by rw [hps.out]; simp; omega
      have HSUM := Lib.hid hsum
      have hpos : decide (k0 + ((pre R k : Nat) : Int) + ((R k).length : Int) < 0) = false := by simp; omega
      clear r1 hsum
      go_wp2_with fail
      refine (HM.out).mono ?_; rintro e wx ⟨rfl, rfl⟩
      go_wp2
      go_round
      case rel => exact ⟨k + 1, by omega, by go_num, by rw [← HSUM.out]⟩
      case measure => simp [intOf]; omega
    · go_wp2
      go_ret
      have hkn : k = n := by omega
      subst hkn
      exact ⟨rfl, rfl⟩

end Go.Proofs.Ytghlgmbekgfmnaa
