/-
  Contracts: remembering, heapFinder; the heap of a chomp by the program.
-/
import Derived.Test.YtghlgmbekgfmnaaHeapP
namespace Go.Proofs.Ytghlgmbekgfmnaa
open Go.RowKit Go.Maps
set_option linter.unusedVariables false

set_option maxRecDepth 100000 in
set_option maxHeartbeats 2000000 in
theorem remembering_any (fn : Nat) (cap : Array Value) (g : List Int → Int) (w : World) :
    Calls Try.prog 112 #[.func (.func fn) #[] cap] w fun e w' => e = .returned (numV (w.heap.size + 2) w.heap.size (w.heap.size + 3)) ∧ MapC w' (w.heap.size + 1) g [] ∧ w'.cell? ⟨w.heap.size + 2, 0, none⟩ = some (.map (some (w.heap.size + 1))) ∧ w'.cell? ⟨w.heap.size, 0, none⟩ = some (.func (.func fn) #[] cap) ∧ w'.cell? ⟨w.heap.size + 3, 0, none⟩ = some (numV (w.heap.size + 2) w.heap.size (w.heap.size + 3)) ∧ Below w.heap.size w w' ∧ w'.heap.size = w.heap.size + 4 := by
  have hmf : ∀ (fn : Fn) (first cap : Array Value) (w : World), (Instr.makeFunc fn first cap).run Try.prog w = .ok (.func fn first cap) w := fun _ _ _ _ => rfl
  have hmm := @run_makeMap Try.prog
  have hst : ∀ (a : Addr) (fn : Fn) (x y : Array Value) (w : World), (store a (.func fn x y)).run Try.prog w = stored Try.prog w a (.func fn x y) .plain := fun a fn x y w => run_store Try.prog w a (.func fn x y) .plain rfl
  go_enter Try.func112, Try.ntmps112
  go_wp2
  go_ret
  have hmd := MapC.made (w.alloc (.cells #[.func (.func fn) #[] cap] 118)) g
  rw [show (w.alloc (.cells #[.func (.func fn) #[] cap] 118)).heap.size = w.heap.size + 1 by simp] at hmd
  refine ⟨rfl, ?_, ?_, ?_, ?_, by (repeat (first | (with_reducible exact Below.refl _ _) | (with_reducible assumption) | (with_reducible refine Below.drew ?_) | ((with_reducible refine balloc ?_ _ ?_); · (first | (simp; done) | (simp; omega) | omega)) | ((with_reducible refine bset ?_ _ ?_); · (first | (simp; done) | (simp; omega) | omega)) | (with_reducible refine bdrewN _ ?_) | ((with_reducible refine bcall ?_ (by assumption) ?_); · (first | (simp; done) | (simp; omega) | omega)))), by simp⟩
  · exact (hmd.same (Below.heap_alloc _ _ _ hmd.lt)).same (Below.heap_alloc _ _ _ (by have := hmd.lt; first | (simp; done) | (simp; omega)))
  · rw [World.cell?_alloc_lt _ _ _ (by simp)]; simp [go_sem]
  · rw [World.cell?_alloc_lt _ _ _ (by first | (simp; done) | (simp; omega)), World.cell?_alloc_lt _ _ _ (by first | (simp; done) | (simp; omega)), World.cell?_alloc_lt _ _ _ (by simp)]; simp [go_sem]
  · simp [go_sem]

/-- the function that finds heaps answers right -/
theorem num_all (K : Nat → Prop) (km q1 q2 q3 : Nat) (I : World → Prop) (N0 : Nat) (hN : ∀ w, I w → N0 ≤ w.heap.size) (hI0 : ∀ w w', I w → w.heap.size ≤ w'.heap.size → (∀ i, i < N0 → i ≠ km → w'.heap[i]? = w.heap[i]?) → I w') :
    ∀ s, NumOK K km q1 q2 q3 (.func (.func 113) #[] #[]) grI I s
  | 0 => fun l f S w hl _ hs _ _ => by have := (sumI_36 hl).1; omega
  | s + 1 => num_of_find K km q1 q2 q3 grI I (s + 1) (fun l hl => WalkArith.wf_i64 (by have := gr_le hl; unfold grI; omega)) N0 hN hI0 (find_of_num K km q1 q2 q3 _ I s N0 hN hI0 (num_all K km q1 q2 q3 I N0 hN hI0 s))

abbrev heapV : Value := .func (.func 113) #[] #[]
theorem heapOf_any (K : Nat → Prop) (km q1 q2 q3 : Nat) (l : List Int) (f : Nat → Int) (S : List (List Int)) (w : World) (hl : ChOK l) (hf : f = fl l) (hm : HM K w km q1 q2 q3 heapV grI S) :
    Calls Try.prog 120 #[arrF f, .pointer (some ⟨q1, 0, none⟩), .pointer (some ⟨q2, 0, none⟩), .pointer (some ⟨q3, 0, none⟩)] w fun e w' => e = .returned (.int .i64 (grI l)) ∧ (∃ S', HM K w' km q1 q2 q3 heapV grI S') ∧ Chg K w w' :=
  (num_all K km q1 q2 q3 (fun _ => True) 0 (fun _ _ => Nat.zero_le _) (fun _ _ _ _ _ => trivial) 36 l f S w hl hf (by have := (sumI_36 hl).2; omega) hm trivial).mono fun e w' ⟨h1, ⟨S', h2, _⟩, _, h3⟩ => ⟨h1, ⟨S', h2⟩, h3⟩

set_option maxHeartbeats 1000000 in
theorem heapFinder_any (w : World) :
    Calls Try.prog 100 #[] w fun e w' => ∃ km q1 q2 q3, e = .returned (numV q1 q2 q3) ∧ HM (fun i => i = km) w' km q1 q2 q3 heapV grI [] ∧ Below w.heap.size w w' ∧ w.heap.size ≤ km := by
  have HR := Lib.hid (remembering_any 113 #[] grI w)
  go_enter Try.func100, Try.ntmps100
  go_wp2_with fail
  refine (HR.out).mono ?_; rintro e w1 ⟨rfl, h1, h2, h3, h4, h5, h6⟩
  go_wp2
  go_ret
  exact ⟨_, _, _, _, rfl, ⟨h1, h2, h3, h4, rfl, fun i hi => by subst hi; exact h1.lt, by show ¬ _ = _; omega, by show ¬ _ = _; omega, by show ¬ _ = _; omega⟩, h5, by omega⟩

/-- what HeapOfChomp returns -/
def heapR (l : List Int) : Int := if chB l then grI l else 0


end Go.Proofs.Ytghlgmbekgfmnaa
