/-
  Contracts: HeapOfChomp, WinsChomp of the model; isWon, WinsChomp of the program.
-/
import Derived.Test.YtclkddehaomdjaaHeapS
import Derived.Test.YtclkddehaomdjaaHeapF
namespace Go.Proofs.Ytclkddehaomdjaa
open Go.RowKit
set_option linter.unusedVariables false

theorem TabC.look {tbl : List Int} {H W : Nat} (hH : H ≤ 6) (hW : W ≤ 6) (h : TabC tbl (chs H W []) (chs H W []).length) {l : List Int} (hl : ChOK l) (h1 : l.length ≤ H) (h2 : l.getD 0 0 ≤ W) : tbl.getD (keyI l).toNat 0 = (gr l : Nat) + 1 := by
  obtain ⟨i, hi, e⟩ := List.getElem_of_mem ((mem_all hH hW).2 ⟨hl, h1, h2⟩)
  have := h i hi hi
  rwa [e] at this

set_option maxRecDepth 100000 in
set_option maxHeartbeats 2000000 in
theorem cmHeap_any (A : Option Addr) (n c : Nat) (l : List Int) (w : World) (hr : Rd w 1 A n (intCells l)) (hl : ChOK l) :
    Calls Try.prog 65 #[.slice A n c] w fun e w' => e = .returned (.int .i64 (grI l)) ∧ Below w.heap.size w w' := by
  have hll := hr.ilen
  have n6 : n ≤ 6 := by have := hl.2.1; omega
  have n1 : 1 ≤ n := by have := hl.1; omega
  obtain ⟨b, o, rfl, hbl, hx, p0⟩ := hr.num n1
  obtain ⟨W, hW⟩ : ∃ W : Nat, l[0] = W := ⟨(l[0]).toNat, by have := hl.ge0 0; rw [getD_lt hx] at this; omega⟩
  have hW6 : W ≤ 6 := by have := hl.le6 0; rw [getD_lt hx] at this; omega
  have hWl : l.getD 0 0 ≤ W := by rw [getD_lt hx, hW]; omega
  rw [hW, Nat.add_zero] at p0
  obtain ⟨kl, hkl⟩ : ∃ kl : Nat, keyI l = kl := ⟨(keyI l).toNat, by have := (keyI_in hl).1; omega⟩
  have hkl6 : kl < 117649 := by have := (keyI_in hl).2; omega
  have hkli : (kl : Int) < 117649 := by omega
  obtain ⟨gv, hgv⟩ : ∃ gv : Nat, gr l = gv := ⟨_, rfl⟩
  have hgv6 : gv ≤ 36 := by have := gr_le hl; omega
  have HG : Hid (grI l = (gv : Int)) := by simp [Hid, grI, hgv]
  have HTL : Hid (∀ tbl, TabC tbl (chs n W []) (chs n W []).length → tbl.getD kl 0 = (gv : Int) + 1) := fun tbl h => by
    have q := TabC.look n6 hW6 h hl (by omega) hWl
    rw [hkl, hgv] at q
    simpa using q
  have HKC : Hid (∀ (wx : World), Rd wx 1 (some ⟨b, o, none⟩) n (intCells l) → Calls Try.prog 69 #[.slice (some ⟨b, o, none⟩) n c] wx fun e w' => e = .returned (.int .i64 (kl : Int)) ∧ wx = w') := fun wx hr => by
    have q := cmKey_any (some ⟨b, o, none⟩) n c l wx hr hl
    rw [hkl] at q
    exact q
  have HCH := Lib.hid (fun wx => cmHeaps_any W n wx hW6 n6)
  clear hW hx hWl hll hkl hgv hl
  go_enter Try.func65, Try.ntmps65
  go_wp2_with fail
  refine (HCH.out _).mono ?_; rintro e w1 ⟨g, tbl, rfl, ho, htab, hb1⟩
  have hr1 := hr.later hb1 (Nat.le_refl _)
  have htc := ho.cellAt kl (by omega)
  have hlen : tbl.length = 117649 := by have := ho.1; rw [length_intCells] at this; omega
  have htv := HTL.out tbl htab
  rw [show (intCells tbl)[kl]? = some (.int .i64 ((gv : Int) + 1)) by
    have hk2 : kl < tbl.length := by omega
    simp only [intCells, List.getElem?_map, List.getElem?_eq_getElem hk2, Option.map_some]
    rw [← htv, getD_lt hk2]] at htc
  have HB1 := Lib.hid hb1
  have hgw : IntKind.i64.wrap (gv : Int) = (gv : Int) := IntWalk.i64_in _ (by omega)
  clear ho htab hlen htv hb1
  go_wp2_with fail
  refine (HKC.out _ hr1).mono ?_; rintro e wx ⟨rfl, rfl⟩
  go_wp2
  go_ret
  exact ⟨by rw [HG.out]; rfl, HB1.out⟩

def winR (l : List Int) : Bool := chB l && decide (0 < grI l)

set_option maxHeartbeats 1000000 in
theorem sHeapOfChomp_any (A : Option Addr) (n c : Nat) (l : List Int) (w : World) (hr : Rd w 1 A n (intCells l)) (hn : n ≤ 1000000000) :
    Calls Try.prog 46 #[.slice A n c] w fun e w' => e = .returned (.tuple #[.int .i64 (heapR l), .bool (chB l)]) ∧ Below w.heap.size w w' := by
  have HG := Lib.hid (fun wx h => cmGood_any A n c l wx h hn)
  cases hb : chB l
  · rw [show heapR l = 0 by simp [heapR, hb]]
    have HB := Lib.hid hb
    clear hb
    go_enter Try.func46, Try.ntmps46
    go_wp2_with fail
    refine (HG.out _ hr).mono ?_; rintro e w1 ⟨rfl, hb1⟩
    rw [HB.out]
    go_wp2
    go_ret2
    exact ⟨rfl, hb1⟩
  · rw [show heapR l = grI l by simp [heapR, hb]]
    have HC := Lib.hid (fun wx h => cmHeap_any A n c l wx h (chB_true.1 hb))
    have HB := Lib.hid hb
    clear hb
    go_enter Try.func46, Try.ntmps46
    go_wp2_with fail
    refine (HG.out _ hr).mono ?_; rintro e w1 ⟨rfl, hb1⟩
    rw [HB.out]
    go_wp2_with fail
    refine (HC.out _ (hr.later hb1 (Nat.le_refl _))).mono ?_; rintro e w2 ⟨rfl, hb2⟩
    go_wp2
    go_ret2
    exact ⟨rfl, hb1.trans (hb2.mono hb1.size)⟩

set_option maxHeartbeats 1000000 in
theorem sWinsChomp_any (A : Option Addr) (n c : Nat) (l : List Int) (w : World) (hr : Rd w 1 A n (intCells l)) (hn : n ≤ 1000000000) :
    Calls Try.prog 36 #[.slice A n c] w fun e w' => e = .returned (.tuple #[.bool (winR l), .bool (chB l)]) ∧ Below w.heap.size w w' := by
  have HG := Lib.hid (fun wx h => cmGood_any A n c l wx h hn)
  cases hb : chB l
  · rw [show winR l = false by simp [winR, hb]]
    have HB := Lib.hid hb
    clear hb
    go_enter Try.func36, Try.ntmps36
    go_wp2_with fail
    refine (HG.out _ hr).mono ?_; rintro e w1 ⟨rfl, hb1⟩
    rw [HB.out]
    go_wp2
    go_ret2
    exact ⟨rfl, hb1⟩
  · rw [show winR l = decide (0 < grI l) by simp [winR, hb]]
    have HC := Lib.hid (fun wx h => cmHeap_any A n c l wx h (chB_true.1 hb))
    have HB := Lib.hid hb
    clear hb
    generalize grI l = gv at *
    go_enter Try.func36, Try.ntmps36
    go_wp2_with fail
    refine (HG.out _ hr).mono ?_; rintro e w1 ⟨rfl, hb1⟩
    rw [HB.out]
    go_wp2_with fail
    refine (HC.out _ (hr.later hb1 (Nat.le_refl _))).mono ?_; rintro e w2 ⟨rfl, hb2⟩
    go_wp2
    go_ret2
    exact ⟨rfl, hb1.trans (hb2.mono hb1.size)⟩

theorem grI_ne {l : List Int} (hl : ChOK l) : (grI l != 0) = decide (0 < grI l) := by
  unfold grI
  by_cases h : gr l = 0
  · simp [h]
  · have h1 : decide ((0 : Int) < ((gr l : Nat) : Int)) = true := by simp; omega
    rw [h1]
    simp
    omega
set_option maxRecDepth 100000 in
set_option maxHeartbeats 1000000 in
theorem isWon_any (K : Nat → Prop) (km q1 q2 q3 : Nat) (l : List Int) (f : Nat → Int) (S : List (List Int)) (w : World) (hl : ChOK l) (hf : f = fl l) (hm : HM K w km q1 q2 q3 heapV grI S) :
    Calls Try.prog 66 #[arrF f, numV q1 q2 q3] w fun e w' => e = .returned (.bool (decide (0 < grI l))) ∧ (∃ S', HM K w' km q1 q2 q3 heapV grI S') ∧ Chg K w w' := by
  have hbl : Below w.heap.size w (w.alloc (.cells #[.int .i64 (f 0), .int .i64 (f 1), .int .i64 (f 2), .int .i64 (f 3), .int .i64 (f 4), .int .i64 (f 5)] 47)) := (Below.refl _ _).alloc (Nat.le_refl _) _
  obtain ⟨c0, c1, c2, c3, c4, c5⟩ := (BoxF.new w f).cells
  have HH := Lib.hid (heapOf_any K km q1 q2 q3 l f S _ hl hf (hm.below hbl (Nat.le_refl _)))
  have HBL := Lib.hid (Chg.of_below (K := K) hbl (Nat.le_refl _))
  rw [← grI_ne hl]
  clear hbl hm hf
  generalize grI l = gv at *
  go_enter Try.func66, Try.ntmps66
  go_wp2_with fail
  refine (HH.out).mono ?_; rintro e w2 ⟨rfl, ⟨S2, hm2⟩, hch⟩
  have HM2 := Lib.hid hm2
  have HC2 := Lib.hid (HBL.out.trans hch)
  clear hm2 hch HH
  go_wp2
  go_ret
  exact ⟨rfl, ⟨S2, HM2.out⟩, HC2.out⟩

set_option maxRecDepth 100000 in
set_option maxHeartbeats 2000000 in
theorem winsChomp_any (A : Option Addr) (n c : Nat) (l : List Int) (w : World) (hr : Rd w 1 A n (intCells l)) (hn : n ≤ 1000000000) :
    Calls Try.prog 37 #[.slice A n c] w fun e w' => e = .returned (.tuple #[.bool (winR l), .bool (chB l)]) ∧ Below w.heap.size w w' := by
  have HC := Lib.hid (fun wx h => chompOf_any A n c l wx h hn)
  cases hb : chB l
  · rw [show winR l = false by simp [winR, hb]]
    have HB := Lib.hid hb
    have HPN := Lib.hid (padC_no hb)
    clear hb
    go_enter Try.func37, Try.ntmps37
    go_wp2_with fail
    refine (HC.out _ hr).mono ?_; rintro e w1 ⟨rfl, hb1⟩
    rw [HB.out, HPN.out]
    have s1 := hb1.size
    go_wp2
    go_ret2
    exact ⟨rfl, by (repeat (first | (with_reducible exact Below.refl _ _) | (with_reducible assumption) | (with_reducible refine Below.drew ?_) | ((with_reducible refine balloc ?_ _ ?_); · (first | (simp; done) | (simp; omega) | omega)) | ((with_reducible refine bset ?_ _ ?_); · (first | (simp; done) | (simp; omega) | omega)) | (with_reducible refine bdrewN _ ?_) | ((with_reducible refine bcall ?_ (by assumption) ?_); · (first | (simp; done) | (simp; omega) | omega))))⟩
  · have HV : Hid (winR l = decide (0 < grI l)) := by simp [Hid, winR, hb]
    rw [HV.out]
    have HB := Lib.hid hb
    have HOK := Lib.hid (chB_true.1 hb)
    have HPD : Hid (padC l = fl l) := funext fun j => padC_at hb j
    clear hb
    go_enter Try.func37, Try.ntmps37
    go_wp2_with fail
    refine (HC.out _ hr).mono ?_; rintro e w1 ⟨rfl, hb1⟩
    rw [HB.out, HPD.out]
    obtain ⟨f, hf⟩ : ∃ f, f = fl l := ⟨_, rfl⟩
    rw [← hf]
    have s1 := hb1.size
    have hbl : Below w.heap.size w (w1.alloc (.cells #[.int .i64 (f 0), .int .i64 (f 1), .int .i64 (f 2), .int .i64 (f 3), .int .i64 (f 4), .int .i64 (f 5)] 47)) := by (repeat (first | (with_reducible exact Below.refl _ _) | (with_reducible assumption) | (with_reducible refine Below.drew ?_) | ((with_reducible refine balloc ?_ _ ?_); · (first | (simp; done) | (simp; omega) | omega)) | ((with_reducible refine bset ?_ _ ?_); · (first | (simp; done) | (simp; omega) | omega)) | (with_reducible refine bdrewN _ ?_) | ((with_reducible refine bcall ?_ (by assumption) ?_); · (first | (simp; done) | (simp; omega) | omega))))
    have hbx := BoxF.new w1 f
    obtain ⟨c0, c1, c2, c3, c4, c5⟩ := hbx.cells
    have HF := Lib.hid hf
    have HBL := Lib.hid hbl
    have HBX := Lib.hid hbx
    have HSZ : Hid ((w1.alloc (.cells #[.int .i64 (f 0), .int .i64 (f 1), .int .i64 (f 2), .int .i64 (f 3), .int .i64 (f 4), .int .i64 (f 5)] 47)).heap.size = w1.heap.size + 1) := by simp [Hid]
    clear hf hbl hbx hb1
    go_wp2
    generalize w1.alloc (.cells #[.int .i64 (f 0), .int .i64 (f 1), .int .i64 (f 2), .int .i64 (f 3), .int .i64 (f 4), .int .i64 (f 5)] 47) = W1 at *
    refine wp_region_held_drew (S := (fun w' => w'.cell? ⟨w1.heap.size, 0, none⟩ = some (.int .i64 (f 0)) ∧ w'.cell? ⟨w1.heap.size, 1, none⟩ = some (.int .i64 (f 1)) ∧ w'.cell? ⟨w1.heap.size, 2, none⟩ = some (.int .i64 (f 2)) ∧ w'.cell? ⟨w1.heap.size, 3, none⟩ = some (.int .i64 (f 3)) ∧ w'.cell? ⟨w1.heap.size, 4, none⟩ = some (.int .i64 (f 4)) ∧ w'.cell? ⟨w1.heap.size, 5, none⟩ = some (.int .i64 (f 5)))) (by kernel_rfl) ?_ (fun hHeld => ?_)
    · ((try dsimp only); (repeat' apply And.intro); all_goals ((repeat (first | (with_reducible refine cell_drew ?_) | (with_reducible refine cell_drewN _ ?_) | ((with_reducible refine cell_alloc ?_ ?_); · first | omega | (simp; done) | (simp; omega) | assumption) | ((with_reducible refine cell_set ?_ ?_); · first | (intro e; injection e; omega) | (intro e; simp at e; done) | (intro e; simp at e; omega)))); first | assumption | (simp; done)))
    refine reg_on (i := 0) (d := 13) (v := ?rv1) rfl rfl (by kernel_rfl) (by kernel_rfl) (by kernel_rfl) (fun _ _ _ h => h) (by rfl) ?ry1 (by assumption) ?rr1
    case ry1 => (intro wz hSw; (try dsimp only at hSw); go_simp; try with_reducible rfl)
    (try simp only [Act.put, List.setIfInBounds_toArray, List.set_cons_zero, List.set_cons_succ])
    refine wpAnyH_ready (rs := [1]) (by kernel_rfl) (by simp) ?_
    refine AllReadyH.cons rfl (fun K hK => ?_) AllReadyH.nil
    go_simp
    go_at_call 67; refine (heapFinder_any _).mono ?_; rintro e w2 ⟨km, q1, q2, q3, rfl, hm2, hb2, hkm⟩; have hx2 : BoxF w2 w1.heap.size f := BoxF.below (by exact HBX.out) hb2 (Nat.le_refl _); obtain ⟨k0, k1, k2, k3, k4, k5⟩ := hx2.cells
    refine hK.out _ _ ?_ (fun hHeld => ?_)
    · ((try dsimp only); (repeat' apply And.intro); all_goals ((repeat (first | (with_reducible refine cell_drew ?_) | (with_reducible refine cell_drewN _ ?_) | ((with_reducible refine cell_alloc ?_ ?_); · first | omega | (simp; done) | (simp; omega) | assumption) | ((with_reducible refine cell_set ?_ ?_); · first | (intro e; injection e; omega) | (intro e; simp at e; done) | (intro e; simp at e; omega)))); first | assumption | (simp; done)))
    clear hK K
    (try simp only [Act.put, List.setIfInBounds_toArray, List.set_cons_zero, List.set_cons_succ])
    refine wpAnyH_ready (rs := [2]) (by kernel_rfl) (by simp) ?_
    refine AllReadyH.cons rfl (fun K hK => ?_) AllReadyH.nil
    go_simp
    go_at_call 66; refine (isWon_any _ km q1 q2 q3 l f [] _ HOK.out HF.out (by exact hm2)).mono ?_; rintro e w3 ⟨rfl, hm3, hch3⟩; have hx3 : BoxF w3 w1.heap.size f := Chg.own hch3 (by exact hx2) (fun q hq e => by cases hq; have e2 : w1.heap.size = km := e; have h1 := HSZ.out; have h2 : W1.heap.size ≤ km := hkm; omega); obtain ⟨m0, m1, m2, m3, m4, m5⟩ := hx3.cells
    refine hK.out _ _ ?_ (fun hHeld => ?_)
    · ((try dsimp only); (repeat' apply And.intro); all_goals ((repeat (first | (with_reducible refine cell_drew ?_) | (with_reducible refine cell_drewN _ ?_) | ((with_reducible refine cell_alloc ?_ ?_); · first | omega | (simp; done) | (simp; omega) | assumption) | ((with_reducible refine cell_set ?_ ?_); · first | (intro e; injection e; omega) | (intro e; simp at e; done) | (intro e; simp at e; omega)))); first | assumption | (simp; done)))
    clear hK K
    (try simp only [Act.put, List.setIfInBounds_toArray, List.set_cons_zero, List.set_cons_succ])
    refine reg_on (i := 3) (d := 2) (v := ?rv4) rfl rfl (by kernel_rfl) (by kernel_rfl) (by kernel_rfl) (fun _ _ _ h => h) (by rfl) ?ry4 (by assumption) ?rr4
    case ry4 => (intro wz hSw; (try dsimp only at hSw); go_simp; try with_reducible rfl)
    (try simp only [Act.put, List.setIfInBounds_toArray, List.set_cons_zero, List.set_cons_succ])
    refine reg_on (i := 4) (d := 3) (v := ?rv5) rfl rfl (by kernel_rfl) (by kernel_rfl) (by kernel_rfl) (fun _ _ _ h => h) (by rfl) ?ry5 (by assumption) ?rr5
    case ry5 => (intro wz hSw; (try dsimp only at hSw); go_simp; try with_reducible rfl)
    (try simp only [Act.put, List.setIfInBounds_toArray, List.set_cons_zero, List.set_cons_succ])
    refine wpAnyH_done (by kernel_rfl) ?_ _
    have hB2 : Below w.heap.size w w2 := HBL.out.drew.trans (hb2.mono HBL.out.size)
    have hB3 : Below w.heap.size w w3 := Chg.below hch3 hB2 (fun i hi => by have e2 : i = km := hi; have h2 : W1.heap.size ≤ km := hkm; have := HBL.out.size; omega)
    go_wp2
    go_ret2
    exact ⟨rfl, hB3⟩

end Go.Proofs.Ytclkddehaomdjaa
