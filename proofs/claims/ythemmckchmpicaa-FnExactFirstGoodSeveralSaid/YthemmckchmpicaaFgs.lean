/-
  Contracts: FirstGoodSeveral of the program and of the model. Conditions: none.
-/
import Derived.Test.YthemmckchmpicaaSev
import Derived.Test.YthemmckchmpicaaGoodK
namespace Go.Proofs.Ythemmckchmpicaa
open Go.RowKit
set_option linter.unusedVariables false
set_option linter.unusedSimpArgs false

def goodAt (a : Nat) (p : Int × Int) : List (Int × Int) := (kmL p.1 p.2).filter (lkF (a ^^^ hpN p.1 p.2))
def fgS (a : Nat) : Nat → List (Int × Int) → Option (Nat × Int × Int)
  | _, [] => none
  | i, p :: r => match goodAt a p with
    | [] => fgS a (i + 1) r
    | q :: _ => some (i, q)
def fgR (l : List (Int × Int)) : Option (Nat × Int × Int) := if sevB l then fgS (xorA l) 0 l else none
def fgI (o : Option (Nat × Int × Int)) : Int := match o with | none => 0 | some (i, _) => (i : Int)
def fgX (o : Option (Nat × Int × Int)) : Int := match o with | none => 0 | some (_, q) => q.1
def fgY (o : Option (Nat × Int × Int)) : Int := match o with | none => 0 | some (_, q) => q.2
def fgO (o : Option (Nat × Int × Int)) : Bool := o.isSome
abbrev fgV (o : Option (Nat × Int × Int)) : Value := .tuple #[.int .i64 (fgI o), bar2 (fgX o) (fgY o), .bool (fgO o)]
theorem fgR_no {l : List (Int × Int)} (h : sevB l = false) : fgR l = none := by simp [fgR, h]
theorem fgR_yes {l : List (Int × Int)} (h : sevB l = true) : fgR l = fgS (xorA l) 0 l := by simp [fgR, h]
theorem fgS_end (a i : Nat) {l : List (Int × Int)} {n : Nat} (h : l.length ≤ n) : fgS a i (l.drop n) = none := by
  rw [List.drop_of_length_le h]; rfl
theorem fgS_none (a i : Nat) {l : List (Int × Int)} {k : Nat} (h : k < l.length) (hg : goodAt a l[k] = []) : fgS a i (l.drop k) = fgS a (i + 1) (l.drop (k + 1)) := by
  rw [List.drop_eq_getElem_cons h, fgS, hg]
theorem fgS_some (a i : Nat) {l : List (Int × Int)} {k : Nat} (h : k < l.length) {q : Int × Int} {r : List (Int × Int)} (hg : goodAt a l[k] = q :: r) : fgS a i (l.drop k) = some (i, q) := by
  rw [List.drop_eq_getElem_cons h, fgS, hg]
theorem sevB_len {l : List (Int × Int)} (h : sevB l = true) : 1 ≤ l.length ∧ l.length ≤ 8 := by simp [sevB] at h; exact h.1

set_option maxRecDepth 100000 in
set_option maxHeartbeats 4000000 in
theorem firstGoodSeveral_any (A : Option Addr) (n c : Nat) (l : List (Int × Int)) (w : World) (hr : Rd w 2 A n (pairCells l)) (hn : n ≤ 4000000000) :
    Calls Try.prog 31 #[.slice A n c] w fun e w' => e = .returned (fgV (fgR l)) ∧ Below w.heap.size w w' := by
  have bw0 : Below w.heap.size w (w.alloc (.cells #[.int .i64 0, .int .i64 0] 26)) := by (repeat (first | (with_reducible exact Below.refl _ _) | (with_reducible assumption) | (with_reducible refine Below.drew ?_) | ((with_reducible refine balloc ?_ _ ?_); · (first | (simp; done) | (simp; omega) | omega)) | ((with_reducible refine bset ?_ _ ?_); · (first | (simp; done) | (simp; omega) | omega)) | (with_reducible refine bdrewN _ ?_) | ((with_reducible refine bcall ?_ (by assumption) ?_); · (first | (simp; done) | (simp; omega) | omega))))
  have hr0 := hr.alloc (.cells #[.int .i64 0, .int .i64 0] 26)
  cases hS : sevB l
  · rw [fgR_no hS]
    go_enter Try.func31, Try.ntmps31
    go_wp2_with fail
    refine (areKeptBars_any _ _ _ _ _ hr0 hn).mono ?_; rintro e w1 ⟨rfl, hb1⟩; have s1 := hb1.size; obtain ⟨hc1, hf1⟩ := bcell hb1; have z1_w0 : w.heap.size < w1.heap.size := (by have q := s1; first | omega | (simp at q; omega))
    go_wp2
    refine bodyPost_ret (v := fgV none) (by simp [results, Try.results31, go_sem, fgI, fgX, fgY, fgO, *]) rfl ⟨rfl, by (repeat (first | (with_reducible exact Below.refl _ _) | (with_reducible assumption) | (with_reducible refine Below.drew ?_) | ((with_reducible refine balloc ?_ _ ?_); · (first | (simp; done) | (simp; omega) | omega)) | ((with_reducible refine bset ?_ _ ?_); · (first | (simp; done) | (simp; omega) | omega)) | (with_reducible refine bdrewN _ ?_) | ((with_reducible refine bcall ?_ (by assumption) ?_); · (first | (simp; done) | (simp; omega) | omega))))⟩
  · rw [fgR_yes hS]
    have hl8 := sevB_len hS
    have hA := sevB_all hS
    have hll : l.length = n := by have := hr.1; rw [length_pairCells] at this; omega
    have HL := Lib.hid hll
    have HA := Lib.hid hA
    have hn8 : n ≤ 8 := by omega
    have hG := xorT_lt hA l.length (Nat.le_refl _)
    clear hl8 hA hll
    go_enter Try.func31, Try.ntmps31
    go_wp2_with fail
    refine (areKeptBars_any _ _ _ _ _ hr0 hn).mono ?_; rintro e w1 ⟨rfl, hb1⟩; have s1 := hb1.size; obtain ⟨hc1, hf1⟩ := bcell hb1; have z1_w0 : w.heap.size < w1.heap.size := (by have q := s1; first | omega | (simp at q; omega))
    go_wp2_with fail
    refine (heapOfSeveral_any _ _ _ _ _ (hr0.later hb1 (Nat.le_refl _)) hn HA.out).mono ?_; rintro e w2 ⟨rfl, hb2⟩; have s2 := hb2.size; obtain ⟨hc2, hf2⟩ := bcell hb2; have z2_w0 : w.heap.size < w2.heap.size := (by have q := s2; first | omega | (simp at q; omega))
    clear hS hc1 hf1 hc2 hf2
    have b12 : Below (w.heap.size + 1) (w.alloc (.cells #[.int .i64 0, .int .i64 0] 26)) w2 := by
      have h1 := hb1.trans (hb2.mono s1)
      rwa [show (w.alloc (.cells #[.int .i64 0, .int .i64 0] 26)).heap.size = w.heap.size + 1 by simp] at h1
    have HB12 := Lib.hid b12
    have HBW2 := Lib.hid (bw0.trans (b12.mono (by omega)))
    have hr2 := hr0.later b12 (by simp)
    have hs2 : w.heap.size + 1 ≤ w2.heap.size := by have := b12.size; simp at this; omega
    have e0 : w2.cell? ⟨w.heap.size, 0, none⟩ = some (.int .i64 0) := (b12.cell (p := ⟨w.heap.size, 0, none⟩) (by simp)).trans (by simp [go_sem])
    have e1 : w2.cell? ⟨w.heap.size, 1, none⟩ = some (.int .i64 0) := (b12.cell (p := ⟨w.heap.size, 1, none⟩) (by simp)).trans (by simp [go_sem])
    have f0 : w2.frozen? ⟨w.heap.size, 0, none⟩ = false := (b12.frozen (p := ⟨w.heap.size, 0, none⟩) (by simp)).trans (World.frozen?_alloc_new _ _ _ _)
    have f1 : w2.frozen? ⟨w.heap.size, 1, none⟩ = false := (b12.frozen (p := ⟨w.heap.size, 1, none⟩) (by simp)).trans (World.frozen?_alloc_new _ _ _ _)
    have E0 := Lib.hid e0
    have E1 := Lib.hid e1
    have F0 := Lib.hid f0
    have F1 := Lib.hid f1
    have hG : xorA l < 16 := hG
    generalize hxg : xorA l = G at *
    generalize hR : fgS G 0 l = R at *
    have HR := Lib.hid hR
    have z2 : w.heap.size < w2.heap.size := by omega
    have HXG := Lib.hid hxg
    clear b12 hb1 hb2 e0 e1 f0 f1 s1 s2 bw0 hr0 hr hxg hR
    go_wp2
    go_loopw [17] (fun i wr => ∃ k : Nat, k ≤ n ∧ i = .int .i64 k ∧ Hid (fgS G k (l.drop k) = R) ∧ Below w2.heap.size w2 wr) (fun i _ => n - (intOf i).toNat)
    case atStart => exact ⟨0, Nat.zero_le _, rfl, by simpa [Hid] using HR.out, Below.refl _ _⟩
    case round =>
      obtain ⟨k, hk, rfl, hE, hB⟩ := hrel
      have sB := hB.size
      have e0 := (hB.cell (p := ⟨w.heap.size, 0, none⟩) z2).trans E0.out
      have e1 := (hB.cell (p := ⟨w.heap.size, 1, none⟩) z2).trans E1.out
      have f0 := (hB.frozen (p := ⟨w.heap.size, 0, none⟩) z2).trans F0.out
      have f1 := (hB.frozen (p := ⟨w.heap.size, 1, none⟩) z2).trans F1.out
      have z3 : w.heap.size < wr.heap.size := by omega
      by_cases hlt : k < n
      · obtain ⟨b, o, rfl, hbl, hx, p1, p2⟩ := (hr2.later hB (Nat.le_refl _)).pair hlt
        have HBp := Lib.hid (allB_at HA.out hx)
        have HNone : Hid (goodAt G l[k] = [] → fgS G k (l.drop k) = fgS G (k + 1) (l.drop (k + 1))) := fun h => fgS_none G k hx h
        have HSome : Hid (∀ q r, goodAt G l[k] = q :: r → fgS G k (l.drop k) = some (k, q)) := fun q r h => fgS_some G k hx h
        have HGD : Hid (goodAt G l[k] = (kmL (l[k]).1 (l[k]).2).filter (lkF (G ^^^ hpN (l[k]).1 (l[k]).2))) := rfl
        generalize hgd : goodAt G l[k] = gd at *
        clear hgd
        generalize (l[k]).1 = x at *
        generalize (l[k]).2 = y at *
        have HB := Lib.hid hB
        clear hB
        go_wp2_with fail
        refine (goodKept_any _ _ _ _ HBp.out hG).mono ?_; rintro e w3 ⟨A3, n3, c3, rfl, own3, hb3, hn3⟩
        have s3 := hb3.size
        have HB3 : Hid (Below w2.heap.size w2 w3) := Lib.hid ((HB.out.alloc (by omega) (.cells #[.int .i64 x, .int .i64 y] 26)).trans (hb3.mono (by simp; omega)))
        rw [← HGD.out] at own3
        have g0 : w3.cell? ⟨w.heap.size, 0, none⟩ = some (.int .i64 0) := (hb3.cell (p := ⟨w.heap.size, 0, none⟩) (by simp; omega)).trans (by (repeat (first | (with_reducible refine cell_drew ?_) | (with_reducible refine cell_drewN _ ?_) | ((with_reducible refine cell_alloc ?_ ?_); · first | omega | (simp; done) | (simp; omega) | assumption) | ((with_reducible refine cell_set ?_ ?_); · first | (intro e; injection e; omega) | (intro e; simp at e; done) | (intro e; simp at e; omega)))); assumption)
        have g1 : w3.cell? ⟨w.heap.size, 1, none⟩ = some (.int .i64 0) := (hb3.cell (p := ⟨w.heap.size, 1, none⟩) (by simp; omega)).trans (by (repeat (first | (with_reducible refine cell_drew ?_) | (with_reducible refine cell_drewN _ ?_) | ((with_reducible refine cell_alloc ?_ ?_); · first | omega | (simp; done) | (simp; omega) | assumption) | ((with_reducible refine cell_set ?_ ?_); · first | (intro e; injection e; omega) | (intro e; simp at e; done) | (intro e; simp at e; omega)))); assumption)
        have fa : (wr.alloc (.cells #[.int .i64 x, .int .i64 y] 26)).frozen? ⟨w.heap.size, 0, none⟩ = false := ((Below.refl wr.heap.size wr).alloc (Nat.le_refl _) _ |>.frozen (p := ⟨w.heap.size, 0, none⟩) z3).trans f0
        have fb : (wr.alloc (.cells #[.int .i64 x, .int .i64 y] 26)).frozen? ⟨w.heap.size, 1, none⟩ = false := ((Below.refl wr.heap.size wr).alloc (Nat.le_refl _) _ |>.frozen (p := ⟨w.heap.size, 1, none⟩) z3).trans f1
        have h0 : w3.frozen? ⟨w.heap.size, 0, none⟩ = false := (hb3.frozen (p := ⟨w.heap.size, 0, none⟩) (by simp; omega)).trans fa
        have h1 : w3.frozen? ⟨w.heap.size, 1, none⟩ = false := (hb3.frozen (p := ⟨w.heap.size, 1, none⟩) (by simp; omega)).trans fb
        have hgl : gd.length = n3 := by have := own3.1; rw [length_pairCells] at this; omega
        have hz3 : w.heap.size < w3.heap.size := by simp at s3; omega
        clear hb3 e0 e1 f0 f1 fa fb p1 p2 s3
        cases gd with
        | nil =>
          have hz : n3 = 0 := by simpa using hgl.symm
          subst hz
          have HE2 := Lib.hid ((HNone.out rfl).symm.trans hE.out)
          clear hgl own3
          go_wp2
          go_roundw
          case rel => exact ⟨k + 1, by omega, by go_num, HE2, HB3.out⟩
          case measure => simp [intOf]; omega
        | cons q r =>
          have hn0 : 0 < n3 := by rw [← hgl]; simp
          have hn0i : (0 : Int) < (n3 : Int) := by omega
          have HE2 := Lib.hid (hE.out.symm.trans (HSome.out q r rfl))
          obtain ⟨b3, o3, rfl, hb3l, hx3, q0, q1⟩ := (Rd.of_own own3).pair hn0
          simp only [Nat.zero_mul, Nat.add_zero, List.getElem_cons_zero] at q0 q1
          have hne : b3 ≠ w.heap.size := by
            obtain ⟨g, hg, hg1, hg2⟩ := own_at own3 hn0
            simp only [Option.some.injEq, Addr.mk.injEq] at hg
            have := hg.1
            simp at hg1
            omega
          have dn : decide (0 < (n3 : Int)) = true := by simpa using hn0i
          clear hgl own3
          go_wp2
          refine wp_region_held_drew (S := (fun w' => w'.cell? ⟨b3, o3, none⟩ = some (.int .i64 q.1) ∧ w'.cell? ⟨b3, o3 + 1, none⟩ = some (.int .i64 q.2))) (by kernel_rfl) ?_ (fun hHeld => ?_)
          · ((try dsimp only); (repeat' apply And.intro); all_goals ((repeat (first | (with_reducible refine cell_drew ?_) | (with_reducible refine cell_drewN _ ?_) | ((with_reducible refine cell_alloc ?_ ?_); · first | omega | (simp; done) | (simp; omega) | assumption) | ((with_reducible refine cell_set ?_ ?_); · first | (intro e; injection e; omega) | (intro e; simp at e; done) | (intro e; simp at e; omega)))); first | assumption | (simp; done)))
          refine reg_on (i := 0) (d := 28) (v := ?rv1) rfl rfl (by kernel_rfl) (by kernel_rfl) (by kernel_rfl) (fun _ _ _ h => h) (by rfl) ?ry1 (by assumption) ?rr1
          case ry1 => (intro wz hSw; (try dsimp only at hSw); go_simp; try with_reducible rfl)
          (try simp only [Act.put, List.setIfInBounds_toArray, List.set_cons_zero, List.set_cons_succ])
          refine reg_on (i := 1) (d := 29) (v := ?rv2) rfl rfl (by kernel_rfl) (by kernel_rfl) (by kernel_rfl) (fun _ _ _ h => h) (by rfl) ?ry2 (by assumption) ?rr2
          case ry2 => (intro wz hSw; (try dsimp only at hSw); go_simp; try with_reducible rfl)
          (try simp only [Act.put, List.setIfInBounds_toArray, List.set_cons_zero, List.set_cons_succ])
          refine reg_on (i := 2) (d := 30) (v := ?rv3) rfl rfl (by kernel_rfl) (by kernel_rfl) (by kernel_rfl) (fun _ _ _ h => h) (by rfl) ?ry3 (by assumption) ?rr3
          case ry3 => (intro wz hSw; (try dsimp only at hSw); go_simp; try with_reducible rfl)
          (try simp only [Act.put, List.setIfInBounds_toArray, List.set_cons_zero, List.set_cons_succ])
          refine reg_on (i := 3) (d := 31) (v := ?rv4) rfl rfl (by kernel_rfl) (by kernel_rfl) (by kernel_rfl) (fun _ _ _ h => h) (by rfl) ?ry4 (by assumption) ?rr4
          case ry4 => (intro wz hSw; (try dsimp only at hSw); go_simp; try with_reducible rfl)
          (try simp only [Act.put, List.setIfInBounds_toArray, List.set_cons_zero, List.set_cons_succ])
          refine reg_on (i := 4) (d := 2) (v := ?rv5) rfl rfl (by kernel_rfl) (by kernel_rfl) (by kernel_rfl) (fun _ _ _ h => h) (by rfl) ?ry5 (by assumption) ?rr5
          case ry5 => (intro wz hSw; (try dsimp only at hSw); go_simp; try with_reducible rfl)
          (try simp only [Act.put, List.setIfInBounds_toArray, List.set_cons_zero, List.set_cons_succ])
          refine wpAnyH_ready (rs := [5]) (by kernel_rfl) (by simp) ?_
          refine AllReadyH.cons rfl (fun K hK => ?_) AllReadyH.nil
          go_simp
          refine hK.out _ _ ?_ (fun hHeld => ?_)
          · ((try dsimp only); (repeat' apply And.intro); all_goals ((repeat (first | (with_reducible refine cell_drew ?_) | (with_reducible refine cell_drewN _ ?_) | ((with_reducible refine cell_alloc ?_ ?_); · first | omega | (simp; done) | (simp; omega) | assumption) | ((with_reducible refine cell_set ?_ ?_); · first | (intro e; injection e; omega) | (intro e; simp at e; done) | (intro e; simp at e; omega)))); first | assumption | (simp; done)))
          clear hK K
          (try simp only [Act.put, List.setIfInBounds_toArray, List.set_cons_zero, List.set_cons_succ])
          refine reg_on (i := 6) (d := 4) (v := ?rv7) rfl rfl (by kernel_rfl) (by kernel_rfl) (by kernel_rfl) (fun _ _ _ h => h) (by rfl) ?ry7 (by assumption) ?rr7
          case ry7 => (intro wz hSw; (try dsimp only at hSw); go_simp; try with_reducible rfl)
          (try simp only [Act.put, List.setIfInBounds_toArray, List.set_cons_zero, List.set_cons_succ])
          refine wpAnyH_done (by kernel_rfl) ?_ _
          go_wp2
          have hv : fgS (xorA l) 0 l = some (k, q) := by rw [HXG.out, HR.out]; exact HE2.out
          refine bodyPost_ret (v := fgV (some (k, q))) (by simp [results, Try.results31, go_sem, fgI, fgX, fgY, fgO, *]) rfl ⟨by rw [hv], ?_⟩
          have hbf : Below w.heap.size w w3 := HBW2.out.trans (HB3.out.mono (by omega))
          (repeat (first | (with_reducible exact Below.refl _ _) | (with_reducible assumption) | (with_reducible refine Below.drew ?_) | ((with_reducible refine balloc ?_ _ ?_); · (first | (simp; done) | (simp; omega) | omega)) | ((with_reducible refine bset ?_ _ ?_); · (first | (simp; done) | (simp; omega) | omega)) | (with_reducible refine bdrewN _ ?_) | ((with_reducible refine bcall ?_ (by assumption) ?_); · (first | (simp; done) | (simp; omega) | omega))))
      · go_wp2
        have HE2 := hE.out
        rw [fgS_end _ _ (by rw [HL.out]; omega)] at HE2
        have hv : fgS (xorA l) 0 l = none := by rw [HXG.out, HR.out, ← HE2]
        have HV := Lib.hid hv
        clear HE2 hv
        have hbf : Below w.heap.size w wr := HBW2.out.trans (hB.mono (by omega))
        refine bodyPost_ret (v := fgV none) (by simp [results, Try.results31, go_sem, fgI, fgX, fgY, fgO, *]) rfl ⟨by rw [HV.out], ?_⟩
        (repeat (first | (with_reducible exact Below.refl _ _) | (with_reducible assumption) | (with_reducible refine Below.drew ?_) | ((with_reducible refine balloc ?_ _ ?_); · (first | (simp; done) | (simp; omega) | omega)) | ((with_reducible refine bset ?_ _ ?_); · (first | (simp; done) | (simp; omega) | omega)) | (with_reducible refine bdrewN _ ?_) | ((with_reducible refine bcall ?_ (by assumption) ?_); · (first | (simp; done) | (simp; omega) | omega))))

end Go.Proofs.Ythemmckchmpicaa
