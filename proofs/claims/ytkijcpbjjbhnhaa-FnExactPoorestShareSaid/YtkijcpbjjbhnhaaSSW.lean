/-
  Words: slices of slices of numbers, read and owned (the words of XSS alone, without the laws' contracts). Nothing of the program is named here.
-/
import Derived.Test.YtkijcpbjjbhnhaaOpenI
namespace Go.Proofs.Ytkijcpbjjbhnhaa
open Go.RowKit
set_option linter.unusedVariables false

/-- the values of n rows -/
def ssCells (A : Nat → Option Addr) (C : Nat → Nat) (R : Nat → List Int) (n : Nat) : List Value := (List.range n).map fun i => .slice (A i) (R i).length (C i)
theorem length_ssCells (A : Nat → Option Addr) (C : Nat → Nat) (R : Nat → List Int) (n : Nat) : (ssCells A C R n).length = n := by simp [ssCells]
theorem ssCells_at {A : Nat → Option Addr} {C : Nat → Nat} {R : Nat → List Int} {n i : Nat} (h : i < n) : (ssCells A C R n)[i]? = some (.slice (A i) (R i).length (C i)) := by simp [ssCells, h]
theorem ssCells_succ (A : Nat → Option Addr) (C : Nat → Nat) (R : Nat → List Int) (n : Nat) : ssCells A C R (n + 1) = ssCells A C R n ++ [.slice (A n) (R n).length (C n)] := by simp [ssCells, List.range_succ]
theorem ssCells_congr {A A' : Nat → Option Addr} {C C' : Nat → Nat} {R R' : Nat → List Int} {n : Nat} (h : ∀ i, i < n → A i = A' i ∧ C i = C' i ∧ (R i).length = (R' i).length) : ssCells A C R n = ssCells A' C' R' n := by
  apply List.map_congr_left
  intro i hi
  obtain ⟨h1, h2, h3⟩ := h i (List.mem_range.1 hi)
  rw [h1, h2, h3]
theorem ssCells_set {A : Nat → Option Addr} {C : Nat → Nat} {R : Nat → List Int} {n k : Nat} (a : Option Addr) (c : Nat) (l : List Int) : (ssCells A C R n).set k (.slice a l.length c) = ssCells (fun i => if i = k then a else A i) (fun i => if i = k then c else C i) (fun i => if i = k then l else R i) n := by
  apply List.ext_getElem
  · simp [ssCells]
  · intro j h1 h2
    rw [List.getElem_set]
    simp only [ssCells, List.getElem_map, List.getElem_range]
    by_cases e : k = j
    · subst e; simp
    · have e' : ¬ j = k := fun q => e q.symm
      simp [e, e']
theorem ss_oneCell (A : Nat → Option Addr) (C : Nat → Nat) (R : Nat → List Int) (n : Nat) : ∀ u ∈ ssCells A C R n, u.oneCell' = true := by
  intro u hu; simp [ssCells] at hu; obtain ⟨s, _, rfl⟩ := hu; rfl

/-- the slice at Ad reads as n rows R -/
def RdSS (w : World) (Ad : Option Addr) (n : Nat) (R : Nat → List Int) : Prop := ∃ A C, Rd w 1 Ad n (ssCells A C R n) ∧ ∀ i, i < n → Rd w 1 (A i) (R i).length (intCells (R i))
theorem RdSS.later {w w' : World} {Ad : Option Addr} {n : Nat} {R : Nat → List Int} (h : RdSS w Ad n R) {B : Nat} (hb : Below B w w') (hB : w.heap.size ≤ B) : RdSS w' Ad n R := by
  obtain ⟨A, C, h1, h2⟩ := h
  exact ⟨A, C, h1.later hb hB, fun i hi => (h2 i hi).later hb hB⟩
theorem RdSS.congr {w : World} {Ad : Option Addr} {n : Nat} {R R' : Nat → List Int} (h : RdSS w Ad n R) (hR : ∀ i, i < n → R i = R' i) : RdSS w Ad n R' := by
  obtain ⟨A, C, h1, h2⟩ := h
  exact ⟨A, C, by rw [← ssCells_congr (R := R) (R' := R') (fun i hi => ⟨rfl, rfl, by rw [hR i hi]⟩)]; exact h1, fun i hi => by rw [← hR i hi]; exact h2 i hi⟩
theorem RdSS.row {w : World} {Ad : Option Addr} {n i : Nat} {R : Nat → List Int} (h : RdSS w Ad n R) (hi : i < n) :
    ∃ b o, Ad = some ⟨b, o, none⟩ ∧ b < w.heap.size ∧ ∃ a c, w.cell? ⟨b, o + i, none⟩ = some (.slice a (R i).length c) ∧ Rd w 1 a (R i).length (intCells (R i)) := by
  obtain ⟨A, C, h1, h2⟩ := h
  obtain ⟨b, o, e, hl, hc⟩ := h1.2 (by omega)
  exact ⟨b, o, e, hl, A i, C i, hc _ _ (ssCells_at hi), h2 i hi⟩

/-- n rows R in memory of their own, each apart from the others -/
structure OwnAC (w : World) (B : Nat) (v : Value) (n : Nat) (A : Nat → Option Addr) (C : Nat → Nat) (R : Nat → List Int) : Prop where
  top : w.ownsRow B 22 1 v n (ssCells A C R n)
  row : ∀ i, i < n → w.ownsRow B 3 1 (.slice (A i) (R i).length (C i)) (R i).length (intCells (R i))
  apart : ∀ i j, i < n → j < n → i ≠ j → (Value.slice (A i) (R i).length (C i)).ownBlock = none ∨ (Value.slice (A i) (R i).length (C i)).ownBlock ≠ (Value.slice (A j) (R j).length (C j)).ownBlock
def OwnSS (w : World) (B : Nat) (v : Value) (n : Nat) (R : Nat → List Int) : Prop := ∃ A C, OwnAC w B v n A C R

theorem ob_len (a : Option Addr) (n m c d : Nat) : (Value.slice a n c).ownBlock = (Value.slice a m d).ownBlock := by cases a <;> rfl
/-- rows of different element types lie in different blocks -/
theorem own_types {w : World} {B B' e e' z z' n n' : Nat} {v v' : Value} {xs xs' : List Value} (h : w.ownsRow B e z v n xs) (h' : w.ownsRow B' e' z' v' n' xs') (he : e ≠ e') : v.ownBlock = none ∨ v.ownBlock ≠ v'.ownBlock := by
  rcases h.2 with ⟨rfl, _⟩ | ⟨g, cap, cur, rfl, _, hg, _⟩
  · exact .inl rfl
  · rcases h'.2 with ⟨rfl, _⟩ | ⟨g', cap', cur', rfl, _, hg', _⟩
    · exact .inr (by simp [Value.ownBlock])
    · refine .inr ?_
      simp only [Value.ownBlock, ne_eq, Option.some.injEq]
      rintro rfl
      rw [hg] at hg'
      simp only [Option.some.injEq, Obj.cells.injEq] at hg'
      exact he hg'.2.1
theorem tt_ne : (22 : Nat) ≠ 3 := by decide

theorem OwnSS.nil (w : World) (B : Nat) (R : Nat → List Int) : OwnSS w B (.slice none 0 0) 0 R := ⟨fun _ => none, fun _ => 0, World.ownsRow_nil _ _ _ _, fun i hi => absurd hi (by omega), fun i _ hi => absurd hi (by omega)⟩
theorem OwnSS.congr {w : World} {B n : Nat} {v : Value} {R R' : Nat → List Int} (h : OwnSS w B v n R) (hR : ∀ i, i < n → R i = R' i) : OwnSS w B v n R' := by
  obtain ⟨A, C, h1, h2, h3⟩ := h
  exact ⟨A, C, by rw [← ssCells_congr (R := R) (R' := R') (fun i hi => ⟨rfl, rfl, by rw [hR i hi]⟩)]; exact h1, fun i hi => by rw [← hR i hi]; exact h2 i hi, fun i j hi hj hij => by rw [← hR i hi, ← hR j hj]; exact h3 i j hi hj hij⟩
theorem OwnSS.rd {w : World} {B n c : Nat} {Ad : Option Addr} {R : Nat → List Int} (h : OwnSS w B (.slice Ad n c) n R) : RdSS w Ad n R := by
  obtain ⟨A, C, h1, h2, h3⟩ := h
  exact ⟨A, C, Rd.of_own h1, fun i hi => Rd.of_own (h2 i hi)⟩
theorem OwnSS.later {w w' : World} {B n c : Nat} {Ad : Option Addr} {R : Nat → List Int} (h : OwnSS w B (.slice Ad n c) n R) {B' : Nat} (hb : Below B' w w') (hB : w.heap.size ≤ B') : OwnSS w' B (.slice Ad n c) n R := by
  obtain ⟨A, C, h1, h2, h3⟩ := h
  exact ⟨A, C, own_later h1 hb hB, fun i hi => own_later (h2 i hi) hb hB, h3⟩
theorem OwnSS.base {w : World} {B B' n : Nat} {v : Value} {R : Nat → List Int} (h : OwnSS w B v n R) (hB : B' ≤ B) : OwnSS w B' v n R := by
  obtain ⟨A, C, h1, h2, h3⟩ := h
  exact ⟨A, C, own_base h1 hB, fun i hi => own_base (h2 i hi) hB, h3⟩
/-- growth beside a row that lies outside -/
theorem OwnSS.kept {w w' : World} {B n : Nat} {v : Value} {R : Nat → List Int} (h : OwnSS w B v n R) {q : Option Nat} (hg : w.grownBy w' q) (hq : ∀ g, q = some g → g < B ∨ w.heap.size ≤ g) : OwnSS w' B v n R := by
  obtain ⟨A, C, h1, h2, h3⟩ := h
  have key : ∀ {e z m : Nat} {u : Value} {xs : List Value}, w.ownsRow B e z u m xs → u.ownBlock = none ∨ u.ownBlock ≠ q := fun {e z m u xs} k => by
    rcases hu : u.ownBlock with _ | g
    · exact .inl rfl
    · refine .inr fun e => ?_
      have a := k.lt g hu
      have b := hq g e.symm
      omega
  exact ⟨A, C, h1.kept hg (key h1), fun i hi => (h2 i hi).kept hg (key (h2 i hi)), h3⟩
/-- one more row behind the others -/
theorem OwnAC.snoc {w w' : World} {B n : Nat} {v v' : Value} {A : Nat → Option Addr} {C : Nat → Nat} {R : Nat → List Int} {a : Option Addr} {c : Nat} {l : List Int} (h : OwnAC w B v n A C R) (hw : w.ownsRow B 3 1 (.slice a l.length c) l.length (intCells l))
    (hfar : ∀ i, i < n → (Value.slice (A i) (R i).length (C i)).ownBlock = none ∨ (Value.slice (A i) (R i).length (C i)).ownBlock ≠ (Value.slice a l.length c).ownBlock)
    (hg : w.grownBy w' v.ownBlock) (ht : w'.ownsRow B 22 1 v' (n + 1) (ssCells A C R n ++ [.slice a l.length c])) : OwnSS w' B v' (n + 1) (fun i => if i = n then l else R i) := by
  refine ⟨fun i => if i = n then a else A i, fun i => if i = n then c else C i, ?_, fun i hi => ?_, fun i j hi hj hij => ?_⟩
  · rw [ssCells_succ]
    simp only [if_true]
    rw [ssCells_congr (A' := A) (C' := C) (R' := R) (fun i hi => by simp [show ¬ i = n by omega])]
    exact ht
  · by_cases e : i = n
    · subst e
      simp only [if_true]
      exact hw.kept hg (own_types hw h.top (fun q => tt_ne q.symm))
    · simp only [if_neg e]
      exact (h.row i (by omega)).kept hg (own_types (h.row i (by omega)) h.top (fun q => tt_ne q.symm))
  · by_cases e : i = n
    · subst e
      have e2 : ¬ j = i := fun q => hij q.symm
      simp only [if_true, if_neg e2]
      rcases hfar j (by omega) with q | q
      · rcases hb : (Value.slice a l.length c).ownBlock with _ | g
        · exact .inl rfl
        · exact .inr (by rw [q]; simp)
      · exact .inr (fun r => q r.symm)
    · by_cases e2 : j = n
      · subst e2
        simp only [if_true, if_neg e]
        exact hfar i (by omega)
      · simp only [if_neg e, if_neg e2]
        exact h.apart i j (by omega) (by omega) hij

def OwnIn (w : World) (B T : Nat) (v : Value) (n : Nat) (R : Nat → List Int) : Prop := ∃ A C, OwnAC w B v n A C R ∧ ∀ i, i < n → ∀ g, (Value.slice (A i) (R i).length (C i)).ownBlock = some g → g < T
theorem OwnIn.of {w : World} {B n : Nat} {v : Value} {R : Nat → List Int} (h : OwnSS w B v n R) : OwnIn w B w.heap.size v n R := by
  obtain ⟨A, C, h⟩ := h
  exact ⟨A, C, h, fun i hi g hg => ((h.row i hi).lt g hg).2⟩
theorem OwnIn.ss {w : World} {B T n : Nat} {v : Value} {R : Nat → List Int} (h : OwnIn w B T v n R) : OwnSS w B v n R := by
  obtain ⟨A, C, h, _⟩ := h
  exact ⟨A, C, h⟩
theorem OwnIn.later {w w' : World} {B T n c : Nat} {Ad : Option Addr} {R : Nat → List Int} (h : OwnIn w B T (.slice Ad n c) n R) {B' : Nat} (hb : Below B' w w') (hB : w.heap.size ≤ B') : OwnIn w' B T (.slice Ad n c) n R := by
  obtain ⟨A, C, ⟨h1, h2, h3⟩, h4⟩ := h
  exact ⟨A, C, ⟨own_later h1 hb hB, fun i hi => own_later (h2 i hi) hb hB, h3⟩, h4⟩
theorem OwnIn.kept {w w' : World} {B T n : Nat} {v : Value} {R : Nat → List Int} (h : OwnIn w B T v n R) {q : Option Nat} (hg : w.grownBy w' q) (hq : ∀ g, q = some g → g < B ∨ w.heap.size ≤ g) : OwnIn w' B T v n R := by
  obtain ⟨A, C, ⟨h1, h2, h3⟩, h4⟩ := h
  have key : ∀ {e z m : Nat} {u : Value} {xs : List Value}, w.ownsRow B e z u m xs → u.ownBlock = none ∨ u.ownBlock ≠ q := fun {e z m u xs} k => by
    rcases hu : u.ownBlock with _ | g
    · exact .inl rfl
    · refine .inr fun e => ?_
      have a := k.lt g hu
      have b := hq g e.symm
      omega
  exact ⟨A, C, ⟨h1.kept hg (key h1), fun i hi => (h2 i hi).kept hg (key (h2 i hi)), h3⟩, h4⟩

theorem OwnAC.push {w w' wz : World} {B n c0 : Nat} {v' : Value} {Ad a : Option Addr} {c : Nat} {A : Nat → Option Addr} {C : Nat → Nat} {R : Nat → List Int} {l : List Int} (h : OwnAC w B (.slice Ad n c0) n A C R) (hb : Below w.heap.size w wz) {T : Nat} (hw : wz.ownsRow T 3 1 (.slice a l.length c) l.length (intCells l)) (hBw : B ≤ T)
    (hlt : ∀ i, i < n → ∀ g, (Value.slice (A i) (R i).length (C i)).ownBlock = some g → g < T)
    (hg : wz.grownBy w' (Value.slice Ad n c0).ownBlock) (ht : w'.ownsRow B 22 1 v' (n + 1) (ssCells A C R n ++ [.slice a l.length c])) : OwnSS w' B v' (n + 1) (fun i => if i = n then l else R i) := by
  refine OwnAC.snoc (w := wz) ⟨own_later h.top hb (Nat.le_refl _), fun i hi => own_later (h.row i hi) hb (Nat.le_refl _), h.apart⟩ (own_base hw hBw) (fun i hi => ?_) hg ht
  rcases hv : (Value.slice (A i) (R i).length (C i)).ownBlock with _ | g
  · exact .inl rfl
  · refine .inr fun e => ?_
    have x := hlt i hi g hv
    have y := (hw.lt g e.symm).1
    omega
theorem ints_info : (Try.prog.info? 22).map (fun i => (i.zero, i.size, i.bytes)) = some (some (.slice none 0 0), 1, 24) := by kernel_rfl

/-- what an owned row's own growth leaves: the old blocks but the row's; the row's value is in its block or in a new one -/
def GB (w w' : World) (r : Option Nat) (v : Value) : Prop := w.grownBy w' r ∧ (v.ownBlock = r ∨ ∀ g, v.ownBlock = some g → w.heap.size ≤ g)
theorem GB.refl (w : World) (v : Value) : GB w w v.ownBlock v := ⟨World.grownBy.refl _ _, .inl rfl⟩
theorem GB.below {w w1 w2 : World} {r : Option Nat} {v : Value} (h : GB w w1 r v) (hb : Below w1.heap.size w1 w2) : GB w w2 r v :=
  ⟨⟨hb.os.trans h.1.os, hb.tape.trans h.1.tape, hb.output.trans h.1.output, Nat.le_trans h.1.size hb.size, fun i hi hr => (hb.block i (Nat.lt_of_lt_of_le hi h.1.size)).trans (h.1.block i hi hr)⟩, h.2⟩
theorem GB.trans {w w1 w2 : World} {r : Option Nat} {v v2 : Value} (h : GB w w1 r v) (k : GB w1 w2 v.ownBlock v2) : GB w w2 r v2 := by
  have hs := h.1.size
  refine ⟨⟨k.1.os.trans h.1.os, k.1.tape.trans h.1.tape, k.1.output.trans h.1.output, Nat.le_trans h.1.size k.1.size, fun i hi hr => ?_⟩, ?_⟩
  · refine (k.1.block i (by omega) ?_).trans (h.1.block i hi hr)
    rcases h.2 with e | e
    · rw [e]; exact hr
    · intro q
      have := e i q.symm
      omega
  · rcases k.2 with e | e
    · rcases h.2 with e2 | e2
      · exact .inl (e.trans e2)
      · exact .inr fun g hg => e2 g (by rw [← e]; exact hg)
    · exact .inr fun g hg => by have := e g hg; omega
theorem GB.keeps {w w' : World} {r : Option Nat} {v u : Value} {B e z n : Nat} {xs : List Value} (h : GB w w' r v) (ho : w.ownsRow B e z u n xs) (hr : u.ownBlock = none ∨ u.ownBlock ≠ r) : w'.ownsRow B e z u n xs := ho.kept h.1 hr

end Go.Proofs.Ytkijcpbjjbhnhaa
