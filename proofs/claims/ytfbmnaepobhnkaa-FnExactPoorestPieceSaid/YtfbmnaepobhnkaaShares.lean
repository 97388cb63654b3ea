/-
  Contract: the shares of a part by those of its parts, of the program.
-/
import Derived.Test.YtfbmnaepobhnkaaBox6
import Derived.Test.YtfbmnaepobhnkaaReg
import Derived.StillTailTactics
namespace Go.Proofs.Ytfbmnaepobhnkaa
open Go.RowKit
set_option linter.unusedVariables false

/-- what holds when the first breaks are done -/
def ShRel (ss : List ByteArray) (x y a b N g : Nat) (m0 : Nat → Int) (w2 : World) (i : Value) (wr : World) : Prop :=
  ∃ k : Nat, k ≤ N ∧ i = .int .i64 k ∧ BoxS wr g (fun t => prK ss x y a b t k (m0 t)) ∧ Chg (fun q => q = g) w2 wr
def IRel (F O m : Nat → Int) (g : Nat) (w5 : World) (i : Value) (wr : World) : Prop :=
  ∃ p : Nat, 1 ≤ p ∧ p ≤ 5 ∧ i = .int .i64 p ∧ BoxS wr g (stI F O m p 0) ∧ Chg (fun q => q = g) w5 wr
def JRel (F O m : Nat → Int) (g p : Nat) (w5 : World) (j : Value) (wr : World) : Prop :=
  ∃ q : Nat, 1 ≤ q ∧ q + p ≤ 6 ∧ j = .int .i64 q ∧ BoxS wr g (stI F O m p (q - 1)) ∧ Chg (fun q => q = g) w5 wr

set_option maxRecDepth 100000 in
set_option maxHeartbeats 8000000 in
theorem sharesOf_any (x y a b mb nn : Nat) (M : M5) (ss : List ByteArray) (w : World) (ha : 1 ≤ a) (hb : 1 ≤ b) (hx : x + a ≤ 8) (hy : y + b ≤ 8) (hM : MapP w mb nn M)
    (hg : ∀ x' y' a' b', SubP x y a b x' y' a' b' → ∀ t, t < 6 → M x' y' a' b' t = pr ss x' y' a' b' t) :
    Calls Try.prog 40 #[part4 x y a b, .int .i64 (rect ss x y a b : Nat), .map (some mb)] w fun e w' => e = .returned (arr6 (pr ss x y a b)) ∧ Below w.heap.size w w' := by
  have hfin : ∀ t, prK ss x y a b t ((a - 1) + (b - 1)) (startP ((rect ss x y a b : Nat) : Int) t) = pr ss x y a b t := fun t => by rw [prK_all]; exact pr_step ss x y a b t ha hb
  have HFIN := Lib.hid hfin
  have HG := Lib.hid hg
  have HM := Lib.hid hM
  have hmb := hM.lt
  clear hg hM hfin
  have hk0 : ∀ t, prK ss x y a b t 0 (startP ((rect ss x y a b : Nat) : Int) t) = startP ((rect ss x y a b : Nat) : Int) t := fun t => by unfold prK; rw [if_pos (by omega)]; rfl
  have HK0 := Lib.hid hk0
  clear hk0
  generalize hr : ((rect ss x y a b : Nat) : Int) = r at *
  clear hr
  go_enter Try.func40, Try.ntmps40
  have bz : BoxS (((w.alloc (.cells #[.int .i64 x, .int .i64 y, .int .i64 a, .int .i64 b] 70)).alloc (.cells #[.int .i64 0, .int .i64 0, .int .i64 0, .int .i64 0, .int .i64 0, .int .i64 0] 72)).alloc (.cells #[.int .i64 0, .int .i64 r, .int .i64 0, .int .i64 0, .int .i64 0, .int .i64 0] 72)) (w.heap.size + 1) (fun _ => 0) := by
    have h := (BoxS.new (w.alloc (.cells #[.int .i64 x, .int .i64 y, .int .i64 a, .int .i64 b] 70)) (fun _ => 0)).alloc (.cells #[.int .i64 0, .int .i64 r, .int .i64 0, .int .i64 0, .int .i64 0, .int .i64 0] 72)
    rw [show (w.alloc (.cells #[.int .i64 x, .int .i64 y, .int .i64 a, .int .i64 b] 70)).heap.size = w.heap.size + 1 by simp] at h
    exact h
  have br : BoxS (((w.alloc (.cells #[.int .i64 x, .int .i64 y, .int .i64 a, .int .i64 b] 70)).alloc (.cells #[.int .i64 0, .int .i64 0, .int .i64 0, .int .i64 0, .int .i64 0, .int .i64 0] 72)).alloc (.cells #[.int .i64 0, .int .i64 r, .int .i64 0, .int .i64 0, .int .i64 0, .int .i64 0] 72)) (w.heap.size + 1 + 1) (startP r) := by
    have h := BoxS.new ((w.alloc (.cells #[.int .i64 x, .int .i64 y, .int .i64 a, .int .i64 b] 70)).alloc (.cells #[.int .i64 0, .int .i64 0, .int .i64 0, .int .i64 0, .int .i64 0, .int .i64 0] 72)) (startP r)
    rw [show ((w.alloc (.cells #[.int .i64 x, .int .i64 y, .int .i64 a, .int .i64 b] 70)).alloc (.cells #[.int .i64 0, .int .i64 0, .int .i64 0, .int .i64 0, .int .i64 0, .int .i64 0] 72)).heap.size = w.heap.size + 1 + 1 by simp] at h
    exact h
  have bl0 : Below w.heap.size w (((w.alloc (.cells #[.int .i64 x, .int .i64 y, .int .i64 a, .int .i64 b] 70)).alloc (.cells #[.int .i64 0, .int .i64 0, .int .i64 0, .int .i64 0, .int .i64 0, .int .i64 0] 72)).alloc (.cells #[.int .i64 0, .int .i64 r, .int .i64 0, .int .i64 0, .int .i64 0, .int .i64 0] 72)) := by (repeat (first | (with_reducible exact Below.refl _ _) | (with_reducible assumption) | (with_reducible refine Below.drew ?_) | ((with_reducible refine balloc ?_ _ ?_); · (first | (simp; done) | (simp; omega) | omega)) | ((with_reducible refine bset ?_ _ ?_); · (first | (simp; done) | (simp; omega) | omega)) | (with_reducible refine bdrewN _ ?_) | ((with_reducible refine bcall ?_ (by assumption) ?_); · (first | (simp; done) | (simp; omega) | omega))))
  have BZ := Lib.hid bz
  have BR := Lib.hid br
  have BL0 := Lib.hid bl0
  clear bz br bl0
  go_wp2_with fail
  refine (breaksOfPart_any x y a b _ ha (by omega) hb (by omega) (by omega) (by omega)).mono ?_; rintro e w2 ⟨A2, N, c2, rfl, own2, hb2⟩
  have s2 := hb2.size
  simp at s2
  have hN : N = (a - 1) + (b - 1) := by have := own2.1; rw [length_octCells, length_brkL] at this; omega
  have HN := Lib.hid hN
  have hN16 : N ≤ 16 := by omega
  have BZ2 := Lib.hid (BZ.out.below hb2 (Nat.le_refl _))
  have BR2 := Lib.hid (BR.out.below hb2 (Nat.le_refl _))
  have BL2 := Lib.hid (bcall (by simp; omega) hb2 BL0.out)
  have M2 := Lib.hid (HM.out.below BL2.out hmb)
  have RD2 := Lib.hid (Rd.of_own own2)
  have hA2 : ∀ b' o', A2 = some ⟨b', o', none⟩ → ¬ b' = w.heap.size + 1 + 1 := by
    rintro b' o' rfl
    have h := (own2.lt b' rfl).1
    simp at h
    omega
  have HA2 := Lib.hid hA2
  have z0 : w.heap.size < w2.heap.size := by omega
  have z1 : w.heap.size + 1 < w2.heap.size := by omega
  have z2 : w.heap.size + 1 + 1 < w2.heap.size := by omega
  have z3 : mb < w2.heap.size := by omega
  have z4 : mb ≠ w.heap.size + 1 + 1 := by omega
  clear hN own2 hb2 s2 hA2 BZ BR BL0
  generalize hg6 : w.heap.size + 1 = g6 at *
  generalize hg7 : g6 + 1 = g7 at *
  have h67 : g6 ≠ g7 := by omega
  have hw7 : w.heap.size ≤ g7 := by omega
  have hw6 : w.heap.size ≤ g6 := by omega
  clear hg6 hg7
  go_wp2
  go_loopw [19] (ShRel ss x y a b N g7 (startP r) w2) (fun i _ => N - (intOf i).toNat)
  case atStart => exact ⟨0, Nat.zero_le _, rfl, BR2.out.congr (fun t _ => (HK0.out t).symm), Chg.refl _ _⟩
  case round =>
    obtain ⟨k, hk, rfl, hbox, hC⟩ := hrel
    by_cases hlt : k < N
    · obtain ⟨bb, o, rfl, hbl, hkx, p0, p1, p2, p3, p4, p5, p6, p7⟩ := (hC.rd RD2.out (fun b' o' e => HA2.out b' o' e)).oct hlt
      obtain ⟨x1, y1, a1, b1, x2, y2, a2, b2, hq, h1, h2, _, hst⟩ := brk_step ss x y a b k ha hb hkx
      rw [hq] at p0 p1 p2 p3 p4 p5 p6 p7
      have HST := Lib.hid hst
      have hM1 := HG.out _ _ _ _ h1
      have hM2 := HG.out _ _ _ _ h2
      obtain ⟨h11, h12, h13, h14, h15, h16, h17⟩ := h1
      obtain ⟨h21, h22, h23, h24, h25, h26, h27⟩ := h2
      have hMr : MapP wr mb nn M := by
        obtain ⟨D, ⟨es, clock, q1, q2⟩, q3⟩ := M2.out
        exact ⟨D, ⟨es, clock, (hC.block mb z3 z4).trans q1, q2⟩, q3⟩
      have hMA := hMr.alloc (.cells #[.int .i64 x1, .int .i64 y1, .int .i64 a1, .int .i64 b1, .int .i64 x2, .int .i64 y2, .int .i64 a2, .int .i64 b2] 90)
      have HMA := Lib.hid hMA
      have d0 : (wr.alloc (.cells #[.int .i64 x1, .int .i64 y1, .int .i64 a1, .int .i64 b1, .int .i64 x2, .int .i64 y2, .int .i64 a2, .int .i64 b2] 90)).cell? ⟨wr.heap.size, 0, none⟩ = some (.int .i64 x1) := by simp [go_sem]
      have d1 : (wr.alloc (.cells #[.int .i64 x1, .int .i64 y1, .int .i64 a1, .int .i64 b1, .int .i64 x2, .int .i64 y2, .int .i64 a2, .int .i64 b2] 90)).cell? ⟨wr.heap.size, 1, none⟩ = some (.int .i64 y1) := by simp [go_sem]
      have d2 : (wr.alloc (.cells #[.int .i64 x1, .int .i64 y1, .int .i64 a1, .int .i64 b1, .int .i64 x2, .int .i64 y2, .int .i64 a2, .int .i64 b2] 90)).cell? ⟨wr.heap.size, 2, none⟩ = some (.int .i64 a1) := by simp [go_sem]
      have d3 : (wr.alloc (.cells #[.int .i64 x1, .int .i64 y1, .int .i64 a1, .int .i64 b1, .int .i64 x2, .int .i64 y2, .int .i64 a2, .int .i64 b2] 90)).cell? ⟨wr.heap.size, 3, none⟩ = some (.int .i64 b1) := by simp [go_sem]
      have d4 : (wr.alloc (.cells #[.int .i64 x1, .int .i64 y1, .int .i64 a1, .int .i64 b1, .int .i64 x2, .int .i64 y2, .int .i64 a2, .int .i64 b2] 90)).cell? ⟨wr.heap.size, 4, none⟩ = some (.int .i64 x2) := by simp [go_sem]
      have d5 : (wr.alloc (.cells #[.int .i64 x1, .int .i64 y1, .int .i64 a1, .int .i64 b1, .int .i64 x2, .int .i64 y2, .int .i64 a2, .int .i64 b2] 90)).cell? ⟨wr.heap.size, 5, none⟩ = some (.int .i64 y2) := by simp [go_sem]
      have d6 : (wr.alloc (.cells #[.int .i64 x1, .int .i64 y1, .int .i64 a1, .int .i64 b1, .int .i64 x2, .int .i64 y2, .int .i64 a2, .int .i64 b2] 90)).cell? ⟨wr.heap.size, 6, none⟩ = some (.int .i64 a2) := by simp [go_sem]
      have d7 : (wr.alloc (.cells #[.int .i64 x1, .int .i64 y1, .int .i64 a1, .int .i64 b1, .int .i64 x2, .int .i64 y2, .int .i64 a2, .int .i64 b2] 90)).cell? ⟨wr.heap.size, 7, none⟩ = some (.int .i64 b2) := by simp [go_sem]
      have HS : ∀ wz : World, Below (wr.alloc (.cells #[.int .i64 x1, .int .i64 y1, .int .i64 a1, .int .i64 b1, .int .i64 x2, .int .i64 y2, .int .i64 a2, .int .i64 b2] 90)).heap.size (wr.alloc (.cells #[.int .i64 x1, .int .i64 y1, .int .i64 a1, .int .i64 b1, .int .i64 x2, .int .i64 y2, .int .i64 a2, .int .i64 b2] 90)) wz → (wz.cell? ⟨wr.heap.size, 0, none⟩ = some (.int .i64 x1) ∧ wz.cell? ⟨wr.heap.size, 1, none⟩ = some (.int .i64 y1) ∧ wz.cell? ⟨wr.heap.size, 2, none⟩ = some (.int .i64 a1) ∧ wz.cell? ⟨wr.heap.size, 3, none⟩ = some (.int .i64 b1) ∧ wz.cell? ⟨wr.heap.size, 4, none⟩ = some (.int .i64 x2) ∧ wz.cell? ⟨wr.heap.size, 5, none⟩ = some (.int .i64 y2) ∧ wz.cell? ⟨wr.heap.size, 6, none⟩ = some (.int .i64 a2) ∧ wz.cell? ⟨wr.heap.size, 7, none⟩ = some (.int .i64 b2) ∧ (Instr.lookup 66 (.map (some mb)) (part4 x1 y1 a1 b1) false).run Try.prog wz = .ok (arr6 (pr ss x1 y1 a1 b1)) wz ∧ (Instr.lookup 66 (.map (some mb)) (part4 x2 y2 a2 b2) false).run Try.prog wz = .ok (arr6 (pr ss x2 y2 a2 b2)) wz) := fun wz hz => ⟨(hz.cell (p := ⟨wr.heap.size, 0, none⟩) (by simp)).trans d0, (hz.cell (p := ⟨wr.heap.size, 1, none⟩) (by simp)).trans d1, (hz.cell (p := ⟨wr.heap.size, 2, none⟩) (by simp)).trans d2, (hz.cell (p := ⟨wr.heap.size, 3, none⟩) (by simp)).trans d3, (hz.cell (p := ⟨wr.heap.size, 4, none⟩) (by simp)).trans d4, (hz.cell (p := ⟨wr.heap.size, 5, none⟩) (by simp)).trans d5, (hz.cell (p := ⟨wr.heap.size, 6, none⟩) (by simp)).trans d6, (hz.cell (p := ⟨wr.heap.size, 7, none⟩) (by simp)).trans d7, MapP.look6 (HMA.out.below hz HMA.out.lt) hM1 (by omega) (by omega) (by omega) (by omega), MapP.look6 (HMA.out.below hz HMA.out.lt) hM2 (by omega) (by omega) (by omega) (by omega)⟩
      have HSH := Lib.hid HS
      have k1 := (HS _ (Below.refl _ _)).2.2.2.2.2.2.2.2.1
      have k2 := (HS _ (Below.refl _ _)).2.2.2.2.2.2.2.2.2
      have k1d := (HS _ (Below.refl _ _).drew).2.2.2.2.2.2.2.2.1
      have k2d := (HS _ (Below.refl _ _).drew).2.2.2.2.2.2.2.2.2
      clear HS
      have HC := Lib.hid hC
      have HBX := Lib.hid hbox
      have hl7 := hbox.lt
      clear hq hst hM1 hM2 hMr hMA h17 h27 hC hbox
      generalize hF : pr ss x1 y1 a1 b1 = F at *
      generalize hO : pr ss x2 y2 a2 b2 = O at *
      go_wp2
      clear p0 p1 p2 p3 p4 p5 p6 p7
      refine wp_region_held_drew (S := (fun w' => w'.cell? ⟨wr.heap.size, 0, none⟩ = some (.int .i64 x1) ∧ w'.cell? ⟨wr.heap.size, 1, none⟩ = some (.int .i64 y1) ∧ w'.cell? ⟨wr.heap.size, 2, none⟩ = some (.int .i64 a1) ∧ w'.cell? ⟨wr.heap.size, 3, none⟩ = some (.int .i64 b1) ∧ w'.cell? ⟨wr.heap.size, 4, none⟩ = some (.int .i64 x2) ∧ w'.cell? ⟨wr.heap.size, 5, none⟩ = some (.int .i64 y2) ∧ w'.cell? ⟨wr.heap.size, 6, none⟩ = some (.int .i64 a2) ∧ w'.cell? ⟨wr.heap.size, 7, none⟩ = some (.int .i64 b2) ∧ (Instr.lookup 66 (.map (some mb)) (part4 x1 y1 a1 b1) false).run Try.prog w' = .ok (arr6 F) w' ∧ (Instr.lookup 66 (.map (some mb)) (part4 x2 y2 a2 b2) false).run Try.prog w' = .ok (arr6 O) w')) (by kernel_rfl) ?_ (fun hHeld => ?_)
      · ((try dsimp only); (repeat' apply And.intro); all_goals ((repeat (first | (with_reducible refine cell_drew ?_) | (with_reducible refine cell_drewN _ ?_) | ((with_reducible refine cell_alloc ?_ ?_); · first | omega | (simp; done) | (simp; omega) | assumption) | ((with_reducible refine cell_set ?_ ?_); · first | (intro e; injection e; omega) | (intro e; simp at e; done) | (intro e; simp at e; omega)))); first | assumption | (simp; done)))
      refine reg_on (i := 0) (d := 23) (v := ?rv1) rfl rfl (by kernel_rfl) (by kernel_rfl) (by kernel_rfl) (fun _ _ _ h => h) (by rfl) ?ry1 (by assumption) ?rr1
      case ry1 => (intro wz hSw; (try dsimp only at hSw); go_simp; try with_reducible rfl)
      (try simp only [Act.put, List.setIfInBounds_toArray, List.set_cons_zero, List.set_cons_succ])
      refine reg_on (i := 1) (d := 24) (v := ?rv2) rfl rfl (by kernel_rfl) (by kernel_rfl) (by kernel_rfl) (fun _ _ _ h => h) (by rfl) ?ry2 (by assumption) ?rr2
      case ry2 => (intro wz hSw; (try dsimp only at hSw); go_simp; try with_reducible rfl)
      (try simp only [Act.put, List.setIfInBounds_toArray, List.set_cons_zero, List.set_cons_succ])
      refine reg_on (i := 2) (d := 25) (v := ?rv3) rfl rfl (by kernel_rfl) (by kernel_rfl) (by kernel_rfl) (fun _ _ _ h => h) (by rfl) ?ry3 (by assumption) ?rr3
      case ry3 => (intro wz hSw; (try dsimp only at hSw); go_simp; try with_reducible rfl)
      (try simp only [Act.put, List.setIfInBounds_toArray, List.set_cons_zero, List.set_cons_succ])
      refine reg_on (i := 3) (d := 26) (v := ?rv4) rfl rfl (by kernel_rfl) (by kernel_rfl) (by kernel_rfl) (fun _ _ _ h => h) (by rfl) ?ry4 (by assumption) ?rr4
      case ry4 => (intro wz hSw; (try dsimp only at hSw); go_simp; try with_reducible rfl)
      (try simp only [Act.put, List.setIfInBounds_toArray, List.set_cons_zero, List.set_cons_succ])
      refine reg_on (i := 4) (d := 27) (v := ?rv5) rfl rfl (by kernel_rfl) (by kernel_rfl) (by kernel_rfl) (fun _ _ _ h => h) (by rfl) ?ry5 (by assumption) ?rr5
      case ry5 => (intro wz hSw; (try dsimp only at hSw); go_simp; try with_reducible rfl)
      (try simp only [Act.put, List.setIfInBounds_toArray, List.set_cons_zero, List.set_cons_succ])
      refine reg_on (i := 5) (d := 28) (v := ?rv6) rfl rfl (by kernel_rfl) (by kernel_rfl) (by kernel_rfl) (fun _ _ _ h => h) (by rfl) ?ry6 (by assumption) ?rr6
      case ry6 => (intro wz hSw; (try dsimp only at hSw); go_simp; try with_reducible rfl)
      (try simp only [Act.put, List.setIfInBounds_toArray, List.set_cons_zero, List.set_cons_succ])
      refine reg_on (i := 6) (d := 29) (v := ?rv7) rfl rfl (by kernel_rfl) (by kernel_rfl) (by kernel_rfl) (fun _ _ _ h => h) (by rfl) ?ry7 (by assumption) ?rr7
      case ry7 => (intro wz hSw; (try dsimp only at hSw); go_simp; try with_reducible rfl)
      (try simp only [Act.put, List.setIfInBounds_toArray, List.set_cons_zero, List.set_cons_succ])
      refine reg_on (i := 7) (d := 30) (v := ?rv8) rfl rfl (by kernel_rfl) (by kernel_rfl) (by kernel_rfl) (fun _ _ _ h => h) (by rfl) ?ry8 (by assumption) ?rr8
      case ry8 => (intro wz hSw; (try dsimp only at hSw); go_simp; try with_reducible rfl)
      (try simp only [Act.put, List.setIfInBounds_toArray, List.set_cons_zero, List.set_cons_succ])
      refine wpAnyH_ready (rs := [8, 9]) (by kernel_rfl) (by simp) ?_
      refine AllReadyH.cons rfl (fun K hK => ?_) (AllReadyH.cons rfl (fun K hK => ?_) AllReadyH.nil)
      go_simp
      refine hK.out _ _ (HSH.out _ (by (repeat (first | (with_reducible exact Below.refl _ _) | (with_reducible assumption) | (with_reducible refine Below.drew ?_) | ((with_reducible refine balloc ?_ _ ?_); · (first | (simp; done) | (simp; omega) | omega)) | ((with_reducible refine bset ?_ _ ?_); · (first | (simp; done) | (simp; omega) | omega)) | (with_reducible refine bdrewN _ ?_) | ((with_reducible refine bcall ?_ (by assumption) ?_); · (first | (simp; done) | (simp; omega) | omega)))))) (fun hHeld => ?_)
      clear hK K
      (try simp only [Act.put, List.setIfInBounds_toArray, List.set_cons_zero, List.set_cons_succ])
      refine wpAnyH_ready (rs := [9]) (by kernel_rfl) (by simp) ?_
      refine AllReadyH.cons rfl (fun K hK => ?_) AllReadyH.nil
      go_simp
      refine hK.out _ _ (HSH.out _ (by (repeat (first | (with_reducible exact Below.refl _ _) | (with_reducible assumption) | (with_reducible refine Below.drew ?_) | ((with_reducible refine balloc ?_ _ ?_); · (first | (simp; done) | (simp; omega) | omega)) | ((with_reducible refine bset ?_ _ ?_); · (first | (simp; done) | (simp; omega) | omega)) | (with_reducible refine bdrewN _ ?_) | ((with_reducible refine bcall ?_ (by assumption) ?_); · (first | (simp; done) | (simp; omega) | omega)))))) (fun hHeld => ?_)
      clear hK K
      (try simp only [Act.put, List.setIfInBounds_toArray, List.set_cons_zero, List.set_cons_succ])
      refine wpAnyH_ready (rs := [10]) (by kernel_rfl) (by simp) ?_
      refine AllReadyH.cons rfl (fun K hK => ?_) AllReadyH.nil
      go_simp
      refine hK.out _ _ (HSH.out _ (by (repeat (first | (with_reducible exact Below.refl _ _) | (with_reducible assumption) | (with_reducible refine Below.drew ?_) | ((with_reducible refine balloc ?_ _ ?_); · (first | (simp; done) | (simp; omega) | omega)) | ((with_reducible refine bset ?_ _ ?_); · (first | (simp; done) | (simp; omega) | omega)) | (with_reducible refine bdrewN _ ?_) | ((with_reducible refine bcall ?_ (by assumption) ?_); · (first | (simp; done) | (simp; omega) | omega)))))) (fun hHeld => ?_)
      clear hK K
      (try simp only [Act.put, List.setIfInBounds_toArray, List.set_cons_zero, List.set_cons_succ])
      refine wpAnyH_ready (rs := [11]) (by kernel_rfl) (by simp) ?_
      refine AllReadyH.cons rfl (fun K hK => ?_) AllReadyH.nil
      go_simp
      refine hK.out _ _ (HSH.out _ (by (repeat (first | (with_reducible exact Below.refl _ _) | (with_reducible assumption) | (with_reducible refine Below.drew ?_) | ((with_reducible refine balloc ?_ _ ?_); · (first | (simp; done) | (simp; omega) | omega)) | ((with_reducible refine bset ?_ _ ?_); · (first | (simp; done) | (simp; omega) | omega)) | (with_reducible refine bdrewN _ ?_) | ((with_reducible refine bcall ?_ (by assumption) ?_); · (first | (simp; done) | (simp; omega) | omega)))))) (fun hHeld => ?_)
      clear hK K
      (try simp only [Act.put, List.setIfInBounds_toArray, List.set_cons_zero, List.set_cons_succ])
      refine wpAnyH_done (by kernel_rfl) ?_ _
      have bF : BoxS (((wr.alloc (.cells #[.int .i64 x1, .int .i64 y1, .int .i64 a1, .int .i64 b1, .int .i64 x2, .int .i64 y2, .int .i64 a2, .int .i64 b2] 90)).alloc (.cells #[.int .i64 (F 0), .int .i64 (F 1), .int .i64 (F 2), .int .i64 (F 3), .int .i64 (F 4), .int .i64 (F 5)] 72)).alloc (.cells #[.int .i64 (O 0), .int .i64 (O 1), .int .i64 (O 2), .int .i64 (O 3), .int .i64 (O 4), .int .i64 (O 5)] 72)).drew (wr.heap.size + 1) F := by
        have h := ((BoxS.new (wr.alloc (.cells #[.int .i64 x1, .int .i64 y1, .int .i64 a1, .int .i64 b1, .int .i64 x2, .int .i64 y2, .int .i64 a2, .int .i64 b2] 90)) F).alloc (.cells #[.int .i64 (O 0), .int .i64 (O 1), .int .i64 (O 2), .int .i64 (O 3), .int .i64 (O 4), .int .i64 (O 5)] 72)).drew
        rw [show (wr.alloc (.cells #[.int .i64 x1, .int .i64 y1, .int .i64 a1, .int .i64 b1, .int .i64 x2, .int .i64 y2, .int .i64 a2, .int .i64 b2] 90)).heap.size = wr.heap.size + 1 by simp] at h
        exact h
      have bO : BoxS (((wr.alloc (.cells #[.int .i64 x1, .int .i64 y1, .int .i64 a1, .int .i64 b1, .int .i64 x2, .int .i64 y2, .int .i64 a2, .int .i64 b2] 90)).alloc (.cells #[.int .i64 (F 0), .int .i64 (F 1), .int .i64 (F 2), .int .i64 (F 3), .int .i64 (F 4), .int .i64 (F 5)] 72)).alloc (.cells #[.int .i64 (O 0), .int .i64 (O 1), .int .i64 (O 2), .int .i64 (O 3), .int .i64 (O 4), .int .i64 (O 5)] 72)).drew (wr.heap.size + 1 + 1) O := by
        have h := (BoxS.new ((wr.alloc (.cells #[.int .i64 x1, .int .i64 y1, .int .i64 a1, .int .i64 b1, .int .i64 x2, .int .i64 y2, .int .i64 a2, .int .i64 b2] 90)).alloc (.cells #[.int .i64 (F 0), .int .i64 (F 1), .int .i64 (F 2), .int .i64 (F 3), .int .i64 (F 4), .int .i64 (F 5)] 72)) O).drew
        rw [show ((wr.alloc (.cells #[.int .i64 x1, .int .i64 y1, .int .i64 a1, .int .i64 b1, .int .i64 x2, .int .i64 y2, .int .i64 a2, .int .i64 b2] 90)).alloc (.cells #[.int .i64 (F 0), .int .i64 (F 1), .int .i64 (F 2), .int .i64 (F 3), .int .i64 (F 4), .int .i64 (F 5)] 72)).heap.size = wr.heap.size + 1 + 1 by simp] at h
        exact h
      have hB5 : Below wr.heap.size wr (((wr.alloc (.cells #[.int .i64 x1, .int .i64 y1, .int .i64 a1, .int .i64 b1, .int .i64 x2, .int .i64 y2, .int .i64 a2, .int .i64 b2] 90)).alloc (.cells #[.int .i64 (F 0), .int .i64 (F 1), .int .i64 (F 2), .int .i64 (F 3), .int .i64 (F 4), .int .i64 (F 5)] 72)).alloc (.cells #[.int .i64 (O 0), .int .i64 (O 1), .int .i64 (O 2), .int .i64 (O 3), .int .i64 (O 4), .int .i64 (O 5)] 72)).drew := by (repeat (first | (with_reducible exact Below.refl _ _) | (with_reducible assumption) | (with_reducible refine Below.drew ?_) | ((with_reducible refine balloc ?_ _ ?_); · (first | (simp; done) | (simp; omega) | omega)) | ((with_reducible refine bset ?_ _ ?_); · (first | (simp; done) | (simp; omega) | omega)) | (with_reducible refine bdrewN _ ?_) | ((with_reducible refine bcall ?_ (by assumption) ?_); · (first | (simp; done) | (simp; omega) | omega))))
      have b7 := HBX.out.below hB5 (Nat.le_refl _)
      have cC := HC.out.trans (Chg.of_below hB5 (Nat.le_refl _))
      clear hB5
      generalize (((wr.alloc (.cells #[.int .i64 x1, .int .i64 y1, .int .i64 a1, .int .i64 b1, .int .i64 x2, .int .i64 y2, .int .i64 a2, .int .i64 b2] 90)).alloc (.cells #[.int .i64 (F 0), .int .i64 (F 1), .int .i64 (F 2), .int .i64 (F 3), .int .i64 (F 4), .int .i64 (F 5)] 72)).alloc (.cells #[.int .i64 (O 0), .int .i64 (O 1), .int .i64 (O 2), .int .i64 (O 3), .int .i64 (O 4), .int .i64 (O 5)] 72)).drew = w5 at *
      generalize hgO : wr.heap.size + 1 + 1 = gO at *
      generalize hgF : wr.heap.size + 1 = gF at *
      have n7F : gF ≠ g7 := by omega
      have n7O : gO ≠ g7 := by omega
      clear hgO hgF
      rotate_left
      go_simp
      refine hK.out _ _ (HSH.out _ (by (repeat (first | (with_reducible exact Below.refl _ _) | (with_reducible assumption) | (with_reducible refine Below.drew ?_) | ((with_reducible refine balloc ?_ _ ?_); · (first | (simp; done) | (simp; omega) | omega)) | ((with_reducible refine bset ?_ _ ?_); · (first | (simp; done) | (simp; omega) | omega)) | (with_reducible refine bdrewN _ ?_) | ((with_reducible refine bcall ?_ (by assumption) ?_); · (first | (simp; done) | (simp; omega) | omega)))))) (fun hHeld => ?_)
      clear hK K
      (try simp only [Act.put, List.setIfInBounds_toArray, List.set_cons_zero, List.set_cons_succ])
      refine wpAnyH_ready (rs := [8]) (by kernel_rfl) (by simp) ?_
      refine AllReadyH.cons rfl (fun K hK => ?_) AllReadyH.nil
      go_simp
      refine hK.out _ _ (HSH.out _ (by (repeat (first | (with_reducible exact Below.refl _ _) | (with_reducible assumption) | (with_reducible refine Below.drew ?_) | ((with_reducible refine balloc ?_ _ ?_); · (first | (simp; done) | (simp; omega) | omega)) | ((with_reducible refine bset ?_ _ ?_); · (first | (simp; done) | (simp; omega) | omega)) | (with_reducible refine bdrewN _ ?_) | ((with_reducible refine bcall ?_ (by assumption) ?_); · (first | (simp; done) | (simp; omega) | omega)))))) (fun hHeld => ?_)
      clear hK K
      (try simp only [Act.put, List.setIfInBounds_toArray, List.set_cons_zero, List.set_cons_succ])
      refine wpAnyH_ready (rs := [10]) (by kernel_rfl) (by simp) ?_
      refine AllReadyH.cons rfl (fun K hK => ?_) AllReadyH.nil
      go_simp
      refine hK.out _ _ (HSH.out _ (by (repeat (first | (with_reducible exact Below.refl _ _) | (with_reducible assumption) | (with_reducible refine Below.drew ?_) | ((with_reducible refine balloc ?_ _ ?_); · (first | (simp; done) | (simp; omega) | omega)) | ((with_reducible refine bset ?_ _ ?_); · (first | (simp; done) | (simp; omega) | omega)) | (with_reducible refine bdrewN _ ?_) | ((with_reducible refine bcall ?_ (by assumption) ?_); · (first | (simp; done) | (simp; omega) | omega)))))) (fun hHeld => ?_)
      clear hK K
      (try simp only [Act.put, List.setIfInBounds_toArray, List.set_cons_zero, List.set_cons_succ])
      refine wpAnyH_ready (rs := [11]) (by kernel_rfl) (by simp) ?_
      refine AllReadyH.cons rfl (fun K hK => ?_) AllReadyH.nil
      go_simp
      refine hK.out _ _ (HSH.out _ (by (repeat (first | (with_reducible exact Below.refl _ _) | (with_reducible assumption) | (with_reducible refine Below.drew ?_) | ((with_reducible refine balloc ?_ _ ?_); · (first | (simp; done) | (simp; omega) | omega)) | ((with_reducible refine bset ?_ _ ?_); · (first | (simp; done) | (simp; omega) | omega)) | (with_reducible refine bdrewN _ ?_) | ((with_reducible refine bcall ?_ (by assumption) ?_); · (first | (simp; done) | (simp; omega) | omega)))))) (fun hHeld => ?_)
      clear hK K
      (try simp only [Act.put, List.setIfInBounds_toArray, List.set_cons_zero, List.set_cons_succ])
      refine wpAnyH_done (by kernel_rfl) ?_ _
      have bO : BoxS (((wr.alloc (.cells #[.int .i64 x1, .int .i64 y1, .int .i64 a1, .int .i64 b1, .int .i64 x2, .int .i64 y2, .int .i64 a2, .int .i64 b2] 90)).alloc (.cells #[.int .i64 (O 0), .int .i64 (O 1), .int .i64 (O 2), .int .i64 (O 3), .int .i64 (O 4), .int .i64 (O 5)] 72)).alloc (.cells #[.int .i64 (F 0), .int .i64 (F 1), .int .i64 (F 2), .int .i64 (F 3), .int .i64 (F 4), .int .i64 (F 5)] 72)).drew (wr.heap.size + 1) O := by
        have h := ((BoxS.new (wr.alloc (.cells #[.int .i64 x1, .int .i64 y1, .int .i64 a1, .int .i64 b1, .int .i64 x2, .int .i64 y2, .int .i64 a2, .int .i64 b2] 90)) O).alloc (.cells #[.int .i64 (F 0), .int .i64 (F 1), .int .i64 (F 2), .int .i64 (F 3), .int .i64 (F 4), .int .i64 (F 5)] 72)).drew
        rw [show (wr.alloc (.cells #[.int .i64 x1, .int .i64 y1, .int .i64 a1, .int .i64 b1, .int .i64 x2, .int .i64 y2, .int .i64 a2, .int .i64 b2] 90)).heap.size = wr.heap.size + 1 by simp] at h
        exact h
      have bF : BoxS (((wr.alloc (.cells #[.int .i64 x1, .int .i64 y1, .int .i64 a1, .int .i64 b1, .int .i64 x2, .int .i64 y2, .int .i64 a2, .int .i64 b2] 90)).alloc (.cells #[.int .i64 (O 0), .int .i64 (O 1), .int .i64 (O 2), .int .i64 (O 3), .int .i64 (O 4), .int .i64 (O 5)] 72)).alloc (.cells #[.int .i64 (F 0), .int .i64 (F 1), .int .i64 (F 2), .int .i64 (F 3), .int .i64 (F 4), .int .i64 (F 5)] 72)).drew (wr.heap.size + 1 + 1) F := by
        have h := (BoxS.new ((wr.alloc (.cells #[.int .i64 x1, .int .i64 y1, .int .i64 a1, .int .i64 b1, .int .i64 x2, .int .i64 y2, .int .i64 a2, .int .i64 b2] 90)).alloc (.cells #[.int .i64 (O 0), .int .i64 (O 1), .int .i64 (O 2), .int .i64 (O 3), .int .i64 (O 4), .int .i64 (O 5)] 72)) F).drew
        rw [show ((wr.alloc (.cells #[.int .i64 x1, .int .i64 y1, .int .i64 a1, .int .i64 b1, .int .i64 x2, .int .i64 y2, .int .i64 a2, .int .i64 b2] 90)).alloc (.cells #[.int .i64 (O 0), .int .i64 (O 1), .int .i64 (O 2), .int .i64 (O 3), .int .i64 (O 4), .int .i64 (O 5)] 72)).heap.size = wr.heap.size + 1 + 1 by simp] at h
        exact h
      have hB5 : Below wr.heap.size wr (((wr.alloc (.cells #[.int .i64 x1, .int .i64 y1, .int .i64 a1, .int .i64 b1, .int .i64 x2, .int .i64 y2, .int .i64 a2, .int .i64 b2] 90)).alloc (.cells #[.int .i64 (O 0), .int .i64 (O 1), .int .i64 (O 2), .int .i64 (O 3), .int .i64 (O 4), .int .i64 (O 5)] 72)).alloc (.cells #[.int .i64 (F 0), .int .i64 (F 1), .int .i64 (F 2), .int .i64 (F 3), .int .i64 (F 4), .int .i64 (F 5)] 72)).drew := by (repeat (first | (with_reducible exact Below.refl _ _) | (with_reducible assumption) | (with_reducible refine Below.drew ?_) | ((with_reducible refine balloc ?_ _ ?_); · (first | (simp; done) | (simp; omega) | omega)) | ((with_reducible refine bset ?_ _ ?_); · (first | (simp; done) | (simp; omega) | omega)) | (with_reducible refine bdrewN _ ?_) | ((with_reducible refine bcall ?_ (by assumption) ?_); · (first | (simp; done) | (simp; omega) | omega))))
      have b7 := HBX.out.below hB5 (Nat.le_refl _)
      have cC := HC.out.trans (Chg.of_below hB5 (Nat.le_refl _))
      clear hB5
      generalize (((wr.alloc (.cells #[.int .i64 x1, .int .i64 y1, .int .i64 a1, .int .i64 b1, .int .i64 x2, .int .i64 y2, .int .i64 a2, .int .i64 b2] 90)).alloc (.cells #[.int .i64 (O 0), .int .i64 (O 1), .int .i64 (O 2), .int .i64 (O 3), .int .i64 (O 4), .int .i64 (O 5)] 72)).alloc (.cells #[.int .i64 (F 0), .int .i64 (F 1), .int .i64 (F 2), .int .i64 (F 3), .int .i64 (F 4), .int .i64 (F 5)] 72)).drew = w5 at *
      generalize hgF : wr.heap.size + 1 + 1 = gF at *
      generalize hgO : wr.heap.size + 1 = gO at *
      have n7F : gF ≠ g7 := by omega
      have n7O : gO ≠ g7 := by omega
      clear hgF hgO
      all_goals
        have BF := Lib.hid bF
        have BO := Lib.hid bO
        have B7 := Lib.hid b7
        have CC := Lib.hid cC
        clear bF bO b7 cC HSH d0 d1 d2 d3 d4 d5 d6 d7 k1 k2 k1d k2d HBX HC
        have HPK : Hid (∀ t, prK ss x y a b t (k + 1) (startP r t) = combP F O t (t - 1) (prK ss x y a b t k (startP r t))) := fun t => HST.out t _
        generalize hm : (fun t => prK ss x y a b t k (startP r t)) = m at *
        have HMM := Lib.hid hm
        clear hm HST
        go_wp2
        go_loopw [12] (IRel F O m g7 w5) (fun i _ => 6 - (intOf i).toNat)
        case atStart => exact ⟨1, by omega, by omega, rfl, B7.out.congr (fun t _ => (stI_start F O m t).symm), Chg.refl _ _⟩
        case round =>
          obtain ⟨p, hp1, hp5, rfl, hb7, hC5⟩ := hrel
          by_cases hlp : p < 5
          · have hlpi : (p : Int) < 5 := by omega
            have HB7 := Lib.hid hb7
            have HC5 := Lib.hid hC5
            clear hb7 hC5
            go_wp2
            go_loopw [13] (JRel F O m g7 p w5) (fun j _ => 7 - (intOf j).toNat)
            case atStart => exact ⟨1, by omega, by omega, rfl, HB7.out, HC5.out⟩
            case round =>
              clear HB7 HC5
              obtain ⟨q, hq1, hq6, rfl, hb7, hC5⟩ := hrel
              obtain ⟨s, hs⟩ : ∃ s : Nat, s = p + q := ⟨_, rfl⟩
              have hsi : (p : Int) + (q : Int) = (s : Int) := by omega
              by_cases hlq : s ≤ 5
              · have hlqi : (s : Int) ≤ 5 := by omega
                have s6 : s < 6 := by omega
                have s6i : (s : Int) < 6 := by omega
                have p6 : p < 6 := by omega
                have p6i : (p : Int) < 6 := by omega
                have q6 : q < 6 := by omega
                have q6i : (q : Int) < 6 := by omega
                have c7 := hb7.cell (k := s) s6
                have f7 := hb7.frozen s
                have cF := (BF.out.chg hC5 n7F).cell (k := p) p6
                have cO := (BO.out.chg hC5 n7O).cell (k := q) q6
                have st := hb7.set (k := s) s6 (if stI F O m p (q - 1) s < (if O q < F p then O q else F p) then (if O q < F p then O q else F p) else stI F O m p (q - 1) s)
                have hv : (if stI F O m p (q - 1) s < (if O q < F p then O q else F p) then (if O q < F p then O q else F p) else stI F O m p (q - 1) s) = max (stI F O m p (q - 1) s) (min (F p) (O q)) := by
                  by_cases h1 : O q < F p
                  · rw [if_pos h1]; split <;> omega
                  · rw [if_neg h1]; split <;> omega
                have hb7' := (st.1.congr (f' := stI F O m p q) (fun t ht => by
                  have h := stI_step F O m (i := p) (j := q - 1) hp1 t
                  rw [show q - 1 + 1 = q by omega, ← hs] at h
                  rw [hv]
                  exact h)).drew
                have hC5' := (hC5.trans (Chg.of_grown st.2 (fun g hg => by injection hg with e; exact e.symm))).trans (Chg.of_below (Below.refl (wr.setCell ⟨g7, s, none⟩ (.int .i64 (if stI F O m p (q - 1) s < (if O q < F p then O q else F p) then (if O q < F p then O q else F p) else stI F O m p (q - 1) s))).heap.size (wr.setCell ⟨g7, s, none⟩ (.int .i64 (if stI F O m p (q - 1) s < (if O q < F p then O q else F p) then (if O q < F p then O q else F p) else stI F O m p (q - 1) s)))).drew (Nat.le_refl _))
                clear hv
                have HB7' := Lib.hid hb7'
                have HC5' := Lib.hid hC5'
                have HS := Lib.hid hs
                clear st hb7' hC5' hb7 hC5 hs
                generalize stI F O m p (q - 1) s = v1 at *
                generalize hv2 : F p = v2 at *
                generalize hv3 : O q = v3 at *
                go_wp2
                have hw2 : IntKind.i64.wrap (s : Int) = (s : Int) := IntWalk.i64_in _ (by omega)
                have hw1 : IntKind.i64.wrap ((p : Int) + (q : Int)) = (s : Int) := by rw [hsi]; exact hw2
                have s0i : (0 : Int) ≤ (s : Int) := by omega
                go_still_tail 17, (by kernel_rfl)
                repeat still_step
                change wpList _ _ _ _ _ wr.drew
                have c7d : wr.drew.cell? ⟨g7, s, none⟩ = some (.int .i64 v1) := c7
                have f7d : wr.drew.frozen? ⟨g7, s, none⟩ = false := f7
                clear c7 f7 cF cO
                go_wp2
                go_roundw
                case rel => exact ⟨q + 1, by omega, by have := HS.out; omega, by go_num, HB7'.out, HC5'.out⟩
                case measure => simp [intOf]; omega
              · have hlqi : ¬ (s : Int) ≤ 5 := by omega
                have e : q - 1 + p = 5 := by omega
                have hb7' := hb7.congr (f' := stI F O m (p + 1) 0) (fun t ht => stI_next F O m hp1 (by omega) ht)
                have HB7' := Lib.hid hb7'
                have HC5' := Lib.hid hC5
                have HS := Lib.hid hs
                clear hb7 hb7' hC5 hs e
                go_wp2
                go_roundw
                case rel => exact ⟨p + 1, by omega, by omega, by go_num, HB7'.out, HC5'.out⟩
                case measure => simp [intOf]; omega
          · obtain rfl : p = 5 := by omega
            have hb7' := hb7.congr (f' := fun t => prK ss x y a b t (k + 1) (startP r t)) (fun t ht => by rw [stI_end F O m ht, HPK.out t, ← HMM.out])
            have HB7' := Lib.hid hb7'
            have HC5' := Lib.hid (CC.out.trans hC5)
            clear hb7 hb7' hC5
            go_wp2
            go_roundw
            case rel => exact ⟨k + 1, by omega, by go_num, HB7'.out, HC5'.out⟩
            case measure => simp [intOf]; omega
    · have hkN : k = N := by omega
      have hkNi : ¬ (k : Int) < (N : Int) := by omega
      have hb7' := hbox.congr (f' := pr ss x y a b) (fun t _ => by rw [hkN, HN.out]; exact HFIN.out t)
      have hb6 := BZ2.out.chg hC h67
      have HBL := Lib.hid (hC.below BL2.out (fun i hi => by have : i = g7 := hi; omega))
      generalize hG : pr ss x y a b = G at *
      have HGG := Lib.hid hG
      clear hG
      have c0 := hb7'.cell (k := 0) (by omega)
      have c1 := hb7'.cell (k := 1) (by omega)
      have c2 := hb7'.cell (k := 2) (by omega)
      have c3 := hb7'.cell (k := 3) (by omega)
      have c4 := hb7'.cell (k := 4) (by omega)
      have c5 := hb7'.cell (k := 5) (by omega)
      have e0 := hb6.cell (k := 0) (by omega)
      have e1 := hb6.cell (k := 1) (by omega)
      have e2 := hb6.cell (k := 2) (by omega)
      have e3 := hb6.cell (k := 3) (by omega)
      have e4 := hb6.cell (k := 4) (by omega)
      have e5 := hb6.cell (k := 5) (by omega)
      have f0 := hb6.frozen 0
      have f1 := hb6.frozen 1
      have f2 := hb6.frozen 2
      have f3 := hb6.frozen 3
      have f4 := hb6.frozen 4
      have f5 := hb6.frozen 5
      clear hbox hb7' hb6 hC hkN
      go_wp2
      refine bodyPost_ret (v := arr6 G) (by simp [results, Try.results40, go_sem, *]) rfl ⟨by rw [HGG.out], ?_⟩
      have hbl := HBL.out
      exact (((((hbl.setCell hw6 _).setCell hw6 _).setCell hw6 _).setCell hw6 _).setCell hw6 _).setCell hw6 _

end Go.Proofs.Ytfbmnaepobhnkaa
