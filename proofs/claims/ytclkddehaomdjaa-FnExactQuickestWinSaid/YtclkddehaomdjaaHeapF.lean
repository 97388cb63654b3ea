/-
  Contracts: remembering, heapFinder; the heap of a chomp by the program.
-/
import Derived.Test.YtclkddehaomdjaaHeapP
namespace Go.Proofs.Ytclkddehaomdjaa
open Go.RowKit Go.Maps
set_option linter.unusedVariables false

set_option maxRecDepth 100000 in
set_option maxHeartbeats 2000000 in
theorem remembering_any (fn : Nat) (cap : Array Value) (g : List Int → Int) (w : World) :
    Calls Try.prog 78 #[.func (.func fn) #[] cap] w fun e w' => e = .returned (numV (w.heap.size + 2) w.heap.size (w.heap.size + 3)) ∧ MapC w' (w.heap.size + 1) g [] ∧ w'.cell? ⟨w.heap.size + 2, 0, none⟩ = some (.map (some (w.heap.size + 1))) ∧ w'.cell? ⟨w.heap.size, 0, none⟩ = some (.func (.func fn) #[] cap) ∧ w'.cell? ⟨w.heap.size + 3, 0, none⟩ = some (numV (w.heap.size + 2) w.heap.size (w.heap.size + 3)) ∧ Below w.heap.size w w' ∧ w'.heap.size = w.heap.size + 4 := by
  have hmf : ∀ (fn : Fn) (first cap : Array Value) (w : World), (Instr.makeFunc fn first cap).run Try.prog w = .ok (.func fn first cap) w := fun _ _ _ _ => rfl
  have hmm := @run_makeMap Try.prog
  have hst : ∀ (a : Addr) (fn : Fn) (x y : Array Value) (w : World), (store a (.func fn x y)).run Try.prog w = stored Try.prog w a (.func fn x y) .plain := fun a fn x y w => run_store Try.prog w a (.func fn x y) .plain rfl
  go_enter Try.func78, Try.ntmps78
  go_wp2
  go_ret
  have hmd := MapC.made (w.alloc (.cells #[.func (.func fn) #[] cap] 76)) g
  rw [show (w.alloc (.cells #[.func (.func fn) #[] cap] 76)).heap.size = w.heap.size + 1 by simp] at hmd
  refine ⟨rfl, ?_, ?_, ?_, ?_, by (repeat (first | (with_reducible exact Below.refl _ _) | (with_reducible assumption) | (with_reducible refine Below.drew ?_) | ((with_reducible refine balloc ?_ _ ?_); · (first | (simp; done) | (simp; omega) | omega)) | ((with_reducible refine bset ?_ _ ?_); · (first | (simp; done) | (simp; omega) | omega)) | (with_reducible refine bdrewN _ ?_) | ((with_reducible refine bcall ?_ (by assumption) ?_); · (first | (simp; done) | (simp; omega) | omega)))), by simp⟩
  · exact (hmd.same (Below.heap_alloc _ _ _ hmd.lt)).same (Below.heap_alloc _ _ _ (by have := hmd.lt; first | (simp; done) | (simp; omega)))
  · rw [World.cell?_alloc_lt _ _ _ (by simp)]; simp [go_sem]
  · rw [World.cell?_alloc_lt _ _ _ (by first | (simp; done) | (simp; omega)), World.cell?_alloc_lt _ _ _ (by first | (simp; done) | (simp; omega)), World.cell?_alloc_lt _ _ _ (by simp)]; simp [go_sem]
  · simp [go_sem]

/-- the function that finds heaps answers right -/
theorem num_all (K : Nat → Prop) (km q1 q2 q3 : Nat) (I : World → Prop) (N0 : Nat) (hN : ∀ w, I w → N0 ≤ w.heap.size) (hI0 : ∀ w w', I w → w.heap.size ≤ w'.heap.size → (∀ i, i < N0 → i ≠ km → w'.heap[i]? = w.heap[i]?) → I w') :
    ∀ s, NumOK K km q1 q2 q3 (.func (.func 79) #[] #[]) grI I s
  | 0 => fun l f S w hl _ hs _ _ => by have := (sumI_36 hl).1; omega
  | s + 1 => num_of_find K km q1 q2 q3 grI I (s + 1) (fun l hl => WalkArith.wf_i64 (by have := gr_le hl; unfold grI; omega)) N0 hN hI0 (find_of_num K km q1 q2 q3 _ I s N0 hN hI0 (num_all K km q1 q2 q3 I N0 hN hI0 s))

abbrev heapV : Value := .func (.func 79) #[] #[]
theorem heapOf_any (K : Nat → Prop) (km q1 q2 q3 : Nat) (l : List Int) (f : Nat → Int) (S : List (List Int)) (w : World) (hl : ChOK l) (hf : f = fl l) (hm : HM K w km q1 q2 q3 heapV grI S) :
    Calls Try.prog 85 #[arrF f, .pointer (some ⟨q1, 0, none⟩), .pointer (some ⟨q2, 0, none⟩), .pointer (some ⟨q3, 0, none⟩)] w fun e w' => e = .returned (.int .i64 (grI l)) ∧ (∃ S', HM K w' km q1 q2 q3 heapV grI S') ∧ Chg K w w' :=
  (num_all K km q1 q2 q3 (fun _ => True) 0 (fun _ _ => Nat.zero_le _) (fun _ _ _ _ _ => trivial) 36 l f S w hl hf (by have := (sumI_36 hl).2; omega) hm trivial).mono fun e w' ⟨h1, ⟨S', h2, _⟩, _, h3⟩ => ⟨h1, ⟨S', h2⟩, h3⟩

set_option maxHeartbeats 1000000 in
theorem heapFinder_any (w : World) :
    Calls Try.prog 67 #[] w fun e w' => ∃ km q1 q2 q3, e = .returned (numV q1 q2 q3) ∧ HM (fun i => i = km) w' km q1 q2 q3 heapV grI [] ∧ Below w.heap.size w w' ∧ w.heap.size ≤ km := by
  have HR := Lib.hid (remembering_any 79 #[] grI w)
  go_enter Try.func67, Try.ntmps67
  go_wp2_with fail
  refine (HR.out).mono ?_; rintro e w1 ⟨rfl, h1, h2, h3, h4, h5, h6⟩
  go_wp2
  go_ret
  exact ⟨_, _, _, _, rfl, ⟨h1, h2, h3, h4, rfl, fun i hi => by subst hi; exact h1.lt, by show ¬ _ = _; omega, by show ¬ _ = _; omega, by show ¬ _ = _; omega⟩, h5, by omega⟩

/-- what HeapOfChomp returns -/
def heapR (l : List Int) : Int := if chB l then grI l else 0

set_option maxRecDepth 100000 in
set_option maxHeartbeats 2000000 in
theorem heapOfChomp_any (A : Option Addr) (n c : Nat) (l : List Int) (w : World) (hr : Rd w 1 A n (intCells l)) (hn : n ≤ 1000000000) :
    Calls Try.prog 47 #[.slice A n c] w fun e w' => e = .returned (.tuple #[.int .i64 (heapR l), .bool (chB l)]) ∧ Below w.heap.size w w' := by
  have HC := Lib.hid (fun wx h => chompOf_any A n c l wx h hn)
  cases hb : chB l
  · rw [show heapR l = 0 by simp [heapR, hb]]
    have HB := Lib.hid hb
    have HPN := Lib.hid (padC_no hb)
    clear hb
    go_enter Try.func47, Try.ntmps47
    go_wp2_with fail
    refine (HC.out _ hr).mono ?_; rintro e w1 ⟨rfl, hb1⟩
    rw [HB.out, HPN.out]
    have s1 := hb1.size
    go_wp2
    go_ret2
    exact ⟨rfl, by (repeat (first | (with_reducible exact Below.refl _ _) | (with_reducible assumption) | (with_reducible refine Below.drew ?_) | ((with_reducible refine balloc ?_ _ ?_); · (first | (simp; done) | (simp; omega) | omega)) | ((with_reducible refine bset ?_ _ ?_); · (first | (simp; done) | (simp; omega) | omega)) | (with_reducible refine bdrewN _ ?_) | ((with_reducible refine bcall ?_ (by assumption) ?_); · (first | (simp; done) | (simp; omega) | omega))))⟩
  · have HV : Hid (heapR l = grI l) := by simp [Hid, heapR, hb]
    rw [HV.out]
    have HB := Lib.hid hb
    have HOK := Lib.hid (chB_true.1 hb)
    have HPD : Hid (padC l = fl l) := funext fun j => padC_at hb j
    clear hb
    go_enter Try.func47, Try.ntmps47
    go_wp2_with fail
    refine (HC.out _ hr).mono ?_; rintro e w1 ⟨rfl, hb1⟩
    rw [HB.out, HPD.out]
    obtain ⟨f, hf⟩ : ∃ f, f = fl l := ⟨_, rfl⟩
    rw [← hf]
    have s1 := hb1.size
    have hbl : Below w.heap.size w (w1.alloc (.cells #[.int .i64 (f 0), .int .i64 (f 1), .int .i64 (f 2), .int .i64 (f 3), .int .i64 (f 4), .int .i64 (f 5)] 47)) := by (repeat (first | (with_reducible exact Below.refl _ _) | (with_reducible assumption) | (with_reducible refine Below.drew ?_) | ((with_reducible refine balloc ?_ _ ?_); · (first | (simp; done) | (simp; omega) | omega)) | ((with_reducible refine bset ?_ _ ?_); · (first | (simp; done) | (simp; omega) | omega)) | (with_reducible refine bdrewN _ ?_) | ((with_reducible refine bcall ?_ (by assumption) ?_); · (first | (simp; done) | (simp; omega) | omega))))
    have hbx := BoxF.new w1 f
    obtain ⟨c0, c1, c2, c3, c4, c5⟩ := hbx.cells
    have HF := Lib.hid hf
    have HBL := Lib.hid hbl
    have HBX := Lib.hid hbx
    have HSZ : Hid ((w1.alloc (.cells #[.int .i64 (f 0), .int .i64 (f 1), .int .i64 (f 2), .int .i64 (f 3), .int .i64 (f 4), .int .i64 (f 5)] 47)).heap.size = w1.heap.size + 1) := by simp [Hid]
    clear hf hbl hbx hb1
    go_wp2
    generalize w1.alloc (.cells #[.int .i64 (f 0), .int .i64 (f 1), .int .i64 (f 2), .int .i64 (f 3), .int .i64 (f 4), .int .i64 (f 5)] 47) = W1 at *
    refine wp_region_held_drew (S := (fun w' => w'.cell? ⟨w1.heap.size, 0, none⟩ = some (.int .i64 (f 0)) ∧ w'.cell? ⟨w1.heap.size, 1, none⟩ = some (.int .i64 (f 1)) ∧ w'.cell? ⟨w1.heap.size, 2, none⟩ = some (.int .i64 (f 2)) ∧ w'.cell? ⟨w1.heap.size, 3, none⟩ = some (.int .i64 (f 3)) ∧ w'.cell? ⟨w1.heap.size, 4, none⟩ = some (.int .i64 (f 4)) ∧ w'.cell? ⟨w1.heap.size, 5, none⟩ = some (.int .i64 (f 5)))) (by kernel_rfl) ?_ (fun hHeld => ?_)
    · ((try dsimp only); (repeat' apply And.intro); all_goals ((repeat (first | (with_reducible refine cell_drew ?_) | (with_reducible refine cell_drewN _ ?_) | ((with_reducible refine cell_alloc ?_ ?_); · first | omega | (simp; done) | (simp; omega) | assumption) | ((with_reducible refine cell_set ?_ ?_); · first | (intro e; injection e; omega) | (intro e; simp at e; done) | (intro e; simp at e; omega)))); first | assumption | (simp; done)))
    refine reg_on (i := 1) (d := 14) (v := ?rv1) rfl rfl (by kernel_rfl) (by kernel_rfl) (by kernel_rfl) (fun _ _ _ h => h) (by rfl) ?ry1 (by assumption) ?rr1
    case ry1 => (intro wz hSw; (try dsimp only at hSw); go_simp; try with_reducible rfl)
    (try simp only [Act.put, List.setIfInBounds_toArray, List.set_cons_zero, List.set_cons_succ])
    refine wpAnyH_ready (rs := [0]) (by kernel_rfl) (by simp) ?_
    refine AllReadyH.cons rfl (fun K hK => ?_) AllReadyH.nil
    go_simp
    go_at_call 67; refine (heapFinder_any _).mono ?_; rintro e w2 ⟨km, q1, q2, q3, rfl, hm2, hb2, hkm⟩; have hx2 : BoxF w2 w1.heap.size f := BoxF.below (by exact HBX.out) hb2 (Nat.le_refl _); obtain ⟨k0, k1, k2, k3, k4, k5⟩ := hx2.cells
    refine hK.out _ _ ?_ (fun hHeld => ?_)
    · ((try dsimp only); (repeat' apply And.intro); all_goals ((repeat (first | (with_reducible refine cell_drew ?_) | (with_reducible refine cell_drewN _ ?_) | ((with_reducible refine cell_alloc ?_ ?_); · first | omega | (simp; done) | (simp; omega) | assumption) | ((with_reducible refine cell_set ?_ ?_); · first | (intro e; injection e; omega) | (intro e; simp at e; done) | (intro e; simp at e; omega)))); first | assumption | (simp; done)))
    clear hK K
    (try simp only [Act.put, List.setIfInBounds_toArray, List.set_cons_zero, List.set_cons_succ])
    refine wpAnyH_ready (rs := [2]) (by kernel_rfl) (by simp) ?_
    refine AllReadyH.cons rfl (fun K hK => ?_) AllReadyH.nil
    go_simp
    go_at_call 85; refine (heapOf_any _ km q1 q2 q3 l f [] _ HOK.out HF.out (by exact hm2)).mono ?_; rintro e w3 ⟨rfl, hm3, hch3⟩; have hx3 : BoxF w3 w1.heap.size f := Chg.own hch3 (by exact hx2) (fun q hq e => by cases hq; have e2 : w1.heap.size = km := e; have h1 := HSZ.out; have h2 : W1.heap.size ≤ km := hkm; omega); obtain ⟨m0, m1, m2, m3, m4, m5⟩ := hx3.cells
    refine hK.out _ _ ?_ (fun hHeld => ?_)
    · ((try dsimp only); (repeat' apply And.intro); all_goals ((repeat (first | (with_reducible refine cell_drew ?_) | (with_reducible refine cell_drewN _ ?_) | ((with_reducible refine cell_alloc ?_ ?_); · first | omega | (simp; done) | (simp; omega) | assumption) | ((with_reducible refine cell_set ?_ ?_); · first | (intro e; injection e; omega) | (intro e; simp at e; done) | (intro e; simp at e; omega)))); first | assumption | (simp; done)))
    clear hK K
    (try simp only [Act.put, List.setIfInBounds_toArray, List.set_cons_zero, List.set_cons_succ])
    refine reg_on (i := 3) (d := 2) (v := ?rv4) rfl rfl (by kernel_rfl) (by kernel_rfl) (by kernel_rfl) (fun _ _ _ h => h) (by rfl) ?ry4 (by assumption) ?rr4
    case ry4 => (intro wz hSw; (try dsimp only at hSw); go_simp; try with_reducible rfl)
    (try simp only [Act.put, List.setIfInBounds_toArray, List.set_cons_zero, List.set_cons_succ])
    refine reg_on (i := 4) (d := 3) (v := ?rv5) rfl rfl (by kernel_rfl) (by kernel_rfl) (by kernel_rfl) (fun _ _ _ h => h) (by rfl) ?ry5 (by assumption) ?rr5
    case ry5 => (intro wz hSw; (try dsimp only at hSw); go_simp; try with_reducible rfl)
    (try simp only [Act.put, List.setIfInBounds_toArray, List.set_cons_zero, List.set_cons_succ])
    refine wpAnyH_done (by kernel_rfl) ?_ _
    have hB2 : Below w.heap.size w w2 := HBL.out.drew.trans (hb2.mono HBL.out.size)
    have hB3 : Below w.heap.size w w3 := Chg.below hch3 hB2 (fun i hi => by have e2 : i = km := hi; have h2 : W1.heap.size ≤ km := hkm; have := HBL.out.size; omega)
    go_wp2
    go_ret2
    exact ⟨rfl, hB3⟩

end Go.Proofs.Ytclkddehaomdjaa
