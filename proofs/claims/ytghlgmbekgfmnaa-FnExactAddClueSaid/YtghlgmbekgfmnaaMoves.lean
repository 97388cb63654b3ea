/-
  Words and contract: all bites of a chomp, of the program (bitesOf).
-/
import Derived.Test.YtghlgmbekgfmnaaBite
namespace Go.Proofs.Ytghlgmbekgfmnaa
open Go.RowKit
set_option linter.unusedVariables false

/-- a scope whose first pass comes to the label itself -/
theorem wp_scope_again {P : Program} {a : Act} {w : World} {Q : Exit → Act → World → Prop} {c rest : Code} (l : Nat) (J : Act → World → Prop) (μ : Act → World → Nat) (hf : findLabel c l = some (Code.skip.seq rest))
    (pass : ∀ a w, J a w → rest.wp P (Exit.jump l (fun a' w' => J a' w' ∧ μ a' w' < μ a w) Q) a w)
    (first : (∀ a w, J a w → rest.wp P (Exit.jump l J Q) a w) → c.wp P (Exit.jump l J Q) a w) : (Code.scope c).wp P Q a w :=
  wp_scope_jumps l J μ hf (first fun a w h => wp_mono (pass a w h) (by
    intro e a' w' he
    cases e with
    | goto l' => exact ⟨he.1, he.2.1⟩
    | _ => exact he)) (fun a w h => wp_seq (wp_skip (pass a w h)))

def rowM (y k : Nat) : List (Int × Int) := ((List.range k).filter fun x => decide (0 < x + y)).map fun (x : Nat) => ((x : Int), (y : Int))
theorem rowM_succ (y k : Nat) : rowM y (k + 1) = rowM y k ++ (if 0 < k + y then [((k : Int), (y : Int))] else []) := by
  simp only [rowM, List.range_succ, List.filter_append, List.map_append]
  congr 1
  by_cases h : 0 < k + y
  · simp [h]
  · have h' : ¬ (0 < k ∨ 0 < y) := by omega
    simp [h]
theorem length_rowM (y k : Nat) : (rowM y k).length ≤ k := by
  have h := List.length_filter_le (fun x : Nat => decide (0 < x + y)) (List.range k)
  simpa [rowM] using h
/-- the bites in the first n rows -/
def mv (f : Nat → Int) (n : Nat) : List (Int × Int) := (List.range n).flatMap fun y => rowM y (f y).toNat
theorem mv_succ (f : Nat → Int) (n : Nat) : mv f (n + 1) = mv f n ++ rowM n (f n).toNat := by simp [mv, List.range_succ]
theorem length_mv {f : Nat → Int} (h : Fall f) (n : Nat) : (mv f n).length ≤ 6 * n := by
  induction n with
  | zero => simp [mv]
  | succ n ih =>
    rw [mv_succ, List.length_append]
    have a := length_rowM n (f n).toNat
    have b := h.anti (Nat.zero_le n)
    have c := h.le6
    omega
theorem mv_more {f : Nat → Int} {n : Nat} (m : Nat) (h : ∀ j, n ≤ j → j < n + m → f j ≤ 0) : mv f (n + m) = mv f n := by
  induction m with
  | zero => rfl
  | succ m ih =>
    rw [← Nat.add_assoc, mv_succ, ih (fun j h1 h2 => h j h1 (by omega)), show (f (n + m)).toNat = 0 by have := h (n + m) (by omega) (by omega); omega]
    simp [rowM]
theorem mv_congr {f g : Nat → Int} {n : Nat} (h : ∀ j, j < n → f j = g j) : mv f n = mv g n := by
  induction n with
  | zero => rfl
  | succ n ih => rw [mv_succ, mv_succ, ih (fun j hj => h j (by omega)), h n (by omega)]
/-- the bites up to x, y -/
def mvP (f : Nat → Int) (y k : Nat) : List (Int × Int) := mv f y ++ rowM y k
theorem mvP_right (f : Nat → Int) (y k : Nat) (h : 0 < k + y) : mvP f y (k + 1) = mvP f y k ++ [((k : Int), (y : Int))] := by
  unfold mvP
  rw [rowM_succ, if_pos h, List.append_assoc]
theorem mvP_up (f : Nat → Int) (y k : Nat) (h : f y = (k : Int)) : mvP f y k = mv f (y + 1) := by
  unfold mvP
  rw [mv_succ, h]
  simp
theorem mvP_new (f : Nat → Int) (y : Nat) (h : 0 < y) : mvP f y 1 = mv f y ++ [((0 : Int), (y : Int))] := by
  unfold mvP
  rw [show (1 : Nat) = 0 + 1 from rfl, rowM_succ, if_pos (by omega)]
  simp [rowM]
theorem mvP_start (f : Nat → Int) : mvP f 0 1 = [] := by
  unfold mvP
  rw [show (1 : Nat) = 0 + 1 from rfl, rowM_succ]
  simp [rowM, mv]
theorem length_mvP {f : Nat → Int} (hf : Fall f) (y k : Nat) : (mvP f y k).length ≤ 6 * y + k := by
  unfold mvP
  rw [List.length_append]
  have := length_mv hf y
  have := length_rowM y k
  omega
theorem length_mvP_at {f : Nat → Int} (hf : Fall f) {y k : Nat} (hy : y < 6) (hk : k < (f y).toNat) : (mvP f y (k + 1)).length ≤ 35 := by
  unfold mvP
  rw [List.length_append]
  have a := length_mv hf y
  have b := hf.anti (Nat.zero_le y)
  have c := hf.le6
  by_cases e : y = 0
  · subst e
    rw [rowM_succ]
    by_cases e2 : k = 0
    · subst e2; simp [rowM, mv]
    · have d := length_rowM 0 k
      rw [List.length_append]
      split <;> simp <;> omega
  · have h5 : (mv f 1).length ≤ 5 := by
      rw [mv_succ]
      simp only [mv, List.range_zero, List.flatMap_nil, List.nil_append]
      obtain ⟨q, hq⟩ : ∃ q, (f 0).toNat = q := ⟨_, rfl⟩
      rw [hq]
      cases q with
      | zero => simp [rowM]
      | succ q =>
        have : ∀ q, (rowM 0 (q + 1)).length ≤ q := fun q => by
          induction q with
          | zero => simp [rowM]
          | succ q ih => rw [rowM_succ, List.length_append]; split <;> simp <;> omega
        have := this q
        omega
    have h6 : ∀ j, (mv f (1 + j)).length ≤ 5 + 6 * j := fun j => by
      induction j with
      | zero => simpa using h5
      | succ j ih =>
        rw [show 1 + (j + 1) = 1 + j + 1 by omega, mv_succ, List.length_append]
        have a1 := length_rowM (1 + j) (f (1 + j)).toNat
        have b1 := hf.anti (Nat.zero_le (1 + j))
        omega
    have h7 := h6 (y - 1)
    rw [show 1 + (y - 1) = y by omega] at h7
    have d := length_rowM y (k + 1)
    omega

/-- block g is a bite's box -/
def BoxB (w : World) (g : Nat) (x y : Int) : Prop := w.ownsRow 0 116 2 (.slice (some ⟨g, 0, none⟩) 1 1) 1 [.int .i64 x, .int .i64 y]
theorem BoxB.cells {w : World} {g : Nat} {x y : Int} (h : BoxB w g x y) : w.cell? ⟨g, 0, none⟩ = some (.int .i64 x) ∧ w.cell? ⟨g, 1, none⟩ = some (.int .i64 y) :=
  ⟨by rw [World.ownsRow.cellAt h 0 (by omega)]; rfl, by rw [World.ownsRow.cellAt h 1 (by omega)]; rfl⟩
theorem BoxB.frozen {w : World} {g : Nat} {x y : Int} (h : BoxB w g x y) (k : Nat) : w.frozen? ⟨g, k, none⟩ = false := World.ownsRow.frozenAt h k
theorem BoxB.lt {w : World} {g : Nat} {x y : Int} (h : BoxB w g x y) : g < w.heap.size := (World.ownsRow.lt h g rfl).2
theorem BoxB.new (w : World) (x y : Int) : BoxB (w.alloc (.cells #[.int .i64 x, .int .i64 y] 116)) w.heap.size x y :=
  own_new w 116 2 1 #[.int .i64 x, .int .i64 y] rfl (by omega) (Nat.zero_le _)
theorem BoxB.below {w w' : World} {g B : Nat} {x y : Int} (h : BoxB w g x y) (hb : Below B w w') (hB : w.heap.size ≤ B) : BoxB w' g x y := own_later h hb hB
theorem BoxB.grown {w w' : World} {g : Nat} {x y : Int} {q : Option Nat} (h : BoxB w g x y) (hg : w.grownBy w' q) (hq : some g ≠ q) : BoxB w' g x y :=
  World.ownsRow.kept h hg (.inr (by simpa [Value.ownBlock] using hq))
theorem BoxF.grownO {w w' : World} {g : Nat} {f : Nat → Int} {q : Option Nat} (h : BoxF w g f) (hg : w.grownBy w' q) (hq : some g ≠ q) : BoxF w' g f :=
  World.ownsRow.kept h hg (.inr (by simpa [Value.ownBlock] using hq))
theorem BoxB.set0 {w : World} {g : Nat} {x y : Int} (h : BoxB w g x y) (v : Int) : BoxB (w.setCell ⟨g, 0, none⟩ (.int .i64 v)) g v y ∧ w.grownBy (w.setCell ⟨g, 0, none⟩ (.int .i64 v)) (some g) :=
  World.ownsRow.stored h 0 (.int .i64 v)
theorem BoxB.set1 {w : World} {g : Nat} {x y : Int} (h : BoxB w g x y) (v : Int) : BoxB (w.setCell ⟨g, 1, none⟩ (.int .i64 v)) g x v ∧ w.grownBy (w.setCell ⟨g, 1, none⟩ (.int .i64 v)) (some g) :=
  World.ownsRow.stored h 1 (.int .i64 v)

theorem ob_ne {v : Value} {a q : Nat} (h : ∀ g, v.ownBlock = some g → a ≤ g) (hq : q < a) : v.ownBlock = none ∨ v.ownBlock ≠ some q := by
  rcases hv : v.ownBlock with _ | g
  · exact .inl rfl
  · refine .inr ?_
    have := h g hv
    simp only [ne_eq, Option.some.injEq]
    omega
theorem bite_info : (Try.prog.info? 116).map (fun i => (i.zero, i.size, i.bytes)) = some (some (bar2 0 0), 2, 16) := by kernel_rfl
def sliceLen : Value → Nat
  | .slice _ n _ => n
  | _ => 0
/-- all that stands in memory at the label -/
def AtB (f : Nat → Int) (w : World) (A' : Option Addr) (m c' x y : Nat) (w' : World) : Prop :=
  y < 6 ∧ x < (f y).toNat ∧ (mvP f y (x + 1)).length = m ∧ w'.ownsRow (w.heap.size + 2) 116 2 (.slice A' m c') m (pairCells (mvP f y (x + 1))) ∧ BoxF w' w.heap.size f ∧ BoxB w' (w.heap.size + 1) x y ∧ Below w.heap.size w w'

set_option maxRecDepth 100000 in
set_option maxHeartbeats 4000000 in
theorem bitesOf_any (f : Nat → Int) (w : World) (hf : Fall f) (hf1 : 1 ≤ f 0) :
    Calls Try.prog 114 #[arrF f] w fun e w' => ∃ A' n' c', e = .returned (.slice A' n' c') ∧ n' ≤ 35 ∧ (mv f 6).length = n' ∧ w'.ownsRow w.heap.size 116 2 (.slice A' n' c') n' (pairCells (mv f 6)) ∧ Below w.heap.size w w' := by
  obtain ⟨i0, hi, hz0, hz1, hz2⟩ := info_parts bite_info
  have HF := Lib.hid hf
  have HF1 := Lib.hid hf1
  have b0 := BoxF.new w f
  have sz1 : (w.alloc (.cells #[.int .i64 (f 0), .int .i64 (f 1), .int .i64 (f 2), .int .i64 (f 3), .int .i64 (f 4), .int .i64 (f 5)] 73)).heap.size = w.heap.size + 1 := by simp
  have bl1 : Below w.heap.size w (w.alloc (.cells #[.int .i64 (f 0), .int .i64 (f 1), .int .i64 (f 2), .int .i64 (f 3), .int .i64 (f 4), .int .i64 (f 5)] 73)) := by (repeat (first | (with_reducible exact Below.refl _ _) | (with_reducible assumption) | (with_reducible refine Below.drew ?_) | ((with_reducible refine balloc ?_ _ ?_); · (first | (simp; done) | (simp; omega) | omega)) | ((with_reducible refine bset ?_ _ ?_); · (first | (simp; done) | (simp; omega) | omega)) | (with_reducible refine bdrewN _ ?_) | ((with_reducible refine bcall ?_ (by assumption) ?_); · (first | (simp; done) | (simp; omega) | omega))))
  have B0 := Lib.hid b0
  have SZ1 := Lib.hid sz1
  have BL1 := Lib.hid bl1
  clear b0 sz1 bl1 hf hf1
  go_enter Try.func114, Try.ntmps114
  go_wp2
  generalize w.alloc (.cells #[.int .i64 (f 0), .int .i64 (f 1), .int .i64 (f 2), .int .i64 (f 3), .int .i64 (f 4), .int .i64 (f 5)] 73) = W1 at *
  apply wp_scope_again 0 (fun a' w' => ∃ (u5 u6 u7 u8 u9 u10 u11 u12 u13 u14 u15 u16 u17 u18 u19 u20 u21 u22 u23 u24 u25 u26 u27 u28 : Value) (A' : Option Addr) (m c' x y : Nat), a' = { tmps := #[arrF f, .pointer (some ⟨w.heap.size, 0, none⟩), .slice none 0 0, .slice A' m c', .pointer (some ⟨w.heap.size + 1, 0, none⟩), u5, u6, u7, u8, u9, u10, u11, u12, u13, u14, u15, u16, u17, u18, u19, u20, u21, u22, u23, u24, u25, u26, u27, u28], defers := [] } ∧ AtB f w A' m c' x y w') (fun a' _ => 36 - sliceLen (a'.tmps.getD 3 undef))
  case hf => exact rfl
  case first =>
    intro again
    have b1 := BoxB.new W1 0 0
    have f0 := B0.out.alloc (.cells #[.int .i64 0, .int .i64 0] 116)
    have bl2 := BL1.out.alloc (show w.heap.size ≤ W1.heap.size by rw [SZ1.out]; omega) (.cells #[.int .i64 0, .int .i64 0] 116)
    rw [SZ1.out] at b1
    have hs := SZ1.out
    have k1 := HF1.out
    have HJ : Hid (AtB f w none 0 0 0 0 (W1.alloc (.cells #[.int .i64 0, .int .i64 0] 116))) := ⟨by omega, by omega, by rw [mvP_start]; rfl, by rw [mvP_start]; exact World.ownsRow_nil _ _ _ _, f0, b1, bl2⟩
    clear b1 f0 bl2 k1
    go_wp2
    go_step3
    rename_i K hK
    exact hK _ _ (again _ _ ⟨_, _, _, _, _, _, _, _, _, _, _, _, _, _, _, _, _, _, _, _, _, _, _, _, none, 0, 0, 0, 0, rfl, HJ.out⟩)
  case pass =>
    rintro a wr ⟨u5, u6, u7, u8, u9, u10, u11, u12, u13, u14, u15, u16, u17, u18, u19, u20, u21, u22, u23, u24, u25, u26, u27, u28, A', m, c', x, y, rfl, hy, hx, hm, hown, hF, hb, hB⟩
    clear B0 SZ1 BL1 W1
    obtain ⟨q, hq⟩ : ∃ q : Nat, f y = (q : Int) := ⟨(f y).toNat, by have := HF.out.ge0 y; omega⟩
    have hxq : x < q := by rw [hq] at hx; simpa using hx
    have hq6 : q ≤ 6 := by have := HF.out.anti (Nat.zero_le y); have := HF.out.le6; omega
    have hm35 : m ≤ 35 := by rw [← hm]; exact length_mvP_at HF.out hy hx
    have hm := Lib.hid hm
    obtain ⟨p0, p1⟩ := hb.cells
    have fz := hb.frozen 0
    have sB := hB.size
    have gl := hb.lt
    have s0 := hb.set0 ((x : Int) + 1)
    have hF2 := hF.grownO s0.2 (by simp)
    have own2 := hown.kept s0.2 (ob_ne (fun g h => (hown.lt g h).1) (by omega))
    have hB2 := hB.setCell (p := ⟨w.heap.size + 1, 0, none⟩) (show w.heap.size ≤ w.heap.size + 1 by omega) (.int .i64 ((x : Int) + 1))
    have hb2 := s0.1
    have HQ := Lib.hid hq
    clear s0 hx hown hF hb hB
    go_wp2
    generalize wr.setCell ⟨w.heap.size + 1, 0, none⟩ (.int .i64 ((x : Int) + 1)) = w2 at *
    have OWN2 := Lib.hid own2
    have HF2 := Lib.hid hF2
    have HB2 := Lib.hid hB2
    have HBB := Lib.hid hb2
    obtain ⟨d0, d1⟩ := hb2.cells
    have z1 := hb2.frozen 1
    have z0 := hb2.frozen 0
    obtain ⟨e0, e1, e2, e3, e4, e5⟩ := hF2.cells
    have ey := hF2.cell hy
    rw [hq] at ey
    clear p0 p1 fz sB gl own2 hF2 hB2 hb2 hq
    by_cases hlt : x + 1 < q
    · have hd : decide ((q : Int) ≤ (x : Int) + 1) = false := decide_eq_false (by omega)
      have HBT : Hid (biteB f ((x : Int) + 1) (y : Int) = true) := by
        simp only [Hid, biteB, decide_eq_true_eq, Int.toNat_natCast, HQ.out]
        omega
      have HM : Hid (mvP f y (x + 1 + 1) = mvP f y (x + 1) ++ [((x : Int) + 1, (y : Int))]) := by
        have h := mvP_right f y (x + 1) (by omega)
        simpa [Hid] using h
      go_quiet (fail)
      go_wp2_with fail
      refine (isBite_any f _ _ _).mono ?_; rintro e w3 ⟨rfl, hi3'⟩
      rw [HBT.out]
      have hi3 : Below w2.heap.size w2 w3 := (bdrewN _ (Below.refl w2.heap.size w2)).trans hi3'
      clear hi3'
      have s3 := hi3.size
      have hF3 := BoxF.below (w := w2) HF2.out hi3 (Nat.le_refl _)
      have hb3' := BoxB.below (w := w2) HBB.out hi3 (Nat.le_refl _)
      have own3 := own_later (w := w2) OWN2.out hi3 (Nat.le_refl _)
      have hB3 : Below w.heap.size w w3 := HB2.out.trans (hi3.mono HB2.out.size)
      clear hi3 e0 e1 e2 e3 e4 e5 ey d0 d1 z0 z1 hd
      obtain ⟨d0, d1⟩ := hb3'.cells
      have s5 := hB3.size
      have hc3 : m + 1 ≤ maxLen := by simp only [maxLen]; omega
      have hgl := hb3'.lt
      go_wp2_with (at_builtin; refine wpList_append_own _ rfl (.tmp 24) (.tmp 26) 104 rfl (w.heap.size + 2) 116 i0 (bar2 0 0) 2 16 Try.underlying104 hi hz0 hz1 hz2 rfl (by decide) _ _ _ rfl (own3.alloc _) ⟨w3.heap.size, 0, none⟩ 1 1 [.int .i64 ((x : Int) + 1), .int .i64 (y : Int)] rfl rfl (new2 _ _ _ _) (two_oneCell _ _ _ _) hc3 (by omega) (by simp; omega) ?_)
      intro v' w4 hown' hgrow _
      have hb4 := gb_new (Nat.le_refl _) (hB3.alloc (by omega) (.cells #[.int .i64 ((x : Int) + 1), .int .i64 (y : Int)] 116)) hgrow (fun g hg => by have := own3.lt g hg; omega)
      have hF4 := (hF3.alloc (.cells #[.int .i64 ((x : Int) + 1), .int .i64 (y : Int)] 116)).grownO hgrow (fun e => by have := own3.lt _ e.symm; omega)
      have hC4 : BoxB w4 (w.heap.size + 1) ((x : Int) + 1) (y : Int) := BoxB.grown (own_alloc hb3' (.cells #[.int .i64 ((x : Int) + 1), .int .i64 (y : Int)] 116)) hgrow (fun e => by have := own3.lt _ e.symm; omega)
      obtain ⟨A2, c2', rfl⟩ := own_slice hown'
      have HJ : Hid (AtB f w A2 (m + 1) c2' (x + 1) y w4) := ⟨by omega, by rw [HQ.out]; simpa using hlt, by rw [HM.out, List.length_append, hm.out]; rfl, by rw [HM.out, pairCells_append]; exact hown', hF4, hC4, hb4⟩
      clear hgrow hown' hF3 hb3' own3 hB3 hb4 hF4 hC4 hc3 hgl
      go_wp2
      go_step3
      refine ⟨rfl, ⟨_, _, _, _, _, _, _, _, _, _, _, _, _, _, _, _, _, _, _, _, _, _, _, _, A2, m + 1, c2', (x + 1), y, rfl, HJ.out⟩, ?_⟩
      simp only [sliceLen, Array.getD]
      show 36 - (m + 1) < 36 - m
      omega
    · have hd : decide ((q : Int) ≤ (x : Int) + 1) = true := decide_eq_true (by omega)
      have hxq1 : x + 1 = q := by omega
      have HUP : Hid (mvP f y (x + 1) = mv f (y + 1)) := mvP_up f y (x + 1) (by rw [HQ.out, hxq1])
      clear hxq1
      go_quiet (fail)
      rename_i nq
      have HB5 : Below w.heap.size w (w2.drewN nq) := bdrewN nq HB2.out
      have hb5 : BoxB (w2.drewN nq) (w.heap.size + 1) ((x : Int) + 1) (y : Int) := HBB.out
      have hF5 : BoxF (w2.drewN nq) w.heap.size f := HF2.out
      have own5 : (w2.drewN nq).ownsRow (w.heap.size + 2) 116 2 (.slice A' m c') m (pairCells (mvP f y (x + 1))) := OWN2.out
      clear OWN2 HF2 HB2 HBB e0 e1 e2 e3 e4 e5 ey d0 d1 z0 z1
      generalize w2.drewN nq = w5 at *
      obtain ⟨d0, d1⟩ := hb5.cells
      have z1 := hb5.frozen 1
      have z0 := hb5.frozen 0
      have t0 := hb5.set0 0
      have t1 := t0.1.set1 ((y : Int) + 1)
      have F3 := (hF5.grownO t0.2 (by simp)).grownO t1.2 (by simp)
      have O3 := (own5.kept t0.2 (ob_ne (fun g h => (own5.lt g h).1) (by omega))).kept t1.2 (ob_ne (fun g h => (own5.lt g h).1) (by omega))
      have BL3 := (HB5.setCell (p := ⟨w.heap.size + 1, 0, none⟩) (show w.heap.size ≤ w.heap.size + 1 by omega) (.int .i64 0)).setCell (p := ⟨w.heap.size + 1, 1, none⟩) (show w.heap.size ≤ w.heap.size + 1 by omega) (.int .i64 ((y : Int) + 1))
      have T1 := Lib.hid t1.1
      have F3h := Lib.hid F3
      have O3h := Lib.hid O3
      have BL3h := Lib.hid BL3
      obtain ⟨e0, e1, e2, e3, e4, e5⟩ := F3.cells
      clear t0 t1 F3 O3 BL3 HB5 hb5 hF5 own5
      have HIB := Lib.hid (fun wx => isBite_any f 0 ((y : Int) + 1) wx)
      by_cases hup : biteB f 0 ((y : Int) + 1) = true
      · have HPOS : Hid (0 < (f (y + 1)).toNat ∧ y + 1 < 6) := by
          have h := hup
          simp only [biteB, decide_eq_true_eq] at h
          have e : ((y : Int) + 1).toNat = y + 1 := by omega
          rw [e] at h
          exact ⟨by omega, by omega⟩
        have HM : Hid (mvP f (y + 1) (0 + 1) = mvP f y (x + 1) ++ [((0 : Int), (y : Int) + 1)]) := by
          have h := mvP_new f (y + 1) (by omega)
          rw [HUP.out]
          simpa [Hid] using h
        have HBT := Lib.hid hup
        clear hup
        go_wp2_with fail
        refine (HIB.out _).mono ?_; rintro e w3 ⟨rfl, hi3⟩
        rw [HBT.out]
        have hF3 := BoxF.below F3h.out hi3 (Nat.le_refl _)
        have hb3n : BoxB w3 (w.heap.size + 1) ((0 : Nat) : Int) ((y + 1 : Nat) : Int) := by
          have h := BoxB.below T1.out hi3 (Nat.le_refl _)
          simpa using h
        have hb3' := BoxB.below T1.out hi3 (Nat.le_refl _)
        have own3 := own_later O3h.out hi3 (Nat.le_refl _)
        have hB3 : Below w.heap.size w w3 := BL3h.out.trans (hi3.mono BL3h.out.size)
        clear hi3 e0 e1 e2 e3 e4 e5 d0 d1 z0 z1 hd HIB T1 F3h O3h BL3h
        obtain ⟨d0, d1⟩ := hb3'.cells
        have s5 := hB3.size
        have hc3 : m + 1 ≤ maxLen := by simp only [maxLen]; omega
        have hgl := hb3'.lt
        go_wp2_with (at_builtin; refine wpList_append_own _ rfl (.tmp 24) (.tmp 26) 104 rfl (w.heap.size + 2) 116 i0 (bar2 0 0) 2 16 Try.underlying104 hi hz0 hz1 hz2 rfl (by decide) _ _ _ rfl (own3.alloc _) ⟨w3.heap.size, 0, none⟩ 1 1 [.int .i64 0, .int .i64 ((y : Int) + 1)] rfl rfl (new2 _ _ _ _) (two_oneCell _ _ _ _) hc3 (by omega) (by simp; omega) ?_)
        intro v' w4 hown' hgrow _
        have hb4 := gb_new (Nat.le_refl _) (hB3.alloc (by omega) (.cells #[.int .i64 0, .int .i64 ((y : Int) + 1)] 116)) hgrow (fun g hg => by have := own3.lt g hg; omega)
        have hF4 := (hF3.alloc (.cells #[.int .i64 0, .int .i64 ((y : Int) + 1)] 116)).grownO hgrow (fun e => by have := own3.lt _ e.symm; omega)
        have hC4 : BoxB w4 (w.heap.size + 1) ((0 : Nat) : Int) ((y + 1 : Nat) : Int) := BoxB.grown (own_alloc hb3n (.cells #[.int .i64 0, .int .i64 ((y : Int) + 1)] 116)) hgrow (fun e => by have := own3.lt _ e.symm; omega)
        obtain ⟨A2, c2', rfl⟩ := own_slice hown'
        have HJ : Hid (AtB f w A2 (m + 1) c2' 0 (y + 1) w4) := ⟨by have := HPOS.out; omega, by have := HPOS.out; omega, by rw [HM.out, List.length_append, hm.out]; rfl, by rw [HM.out, pairCells_append]; exact hown', hF4, hC4, hb4⟩
        clear hgrow hown' hF3 hb3' own3 hB3 hb4 hF4 hC4 hc3 hgl
        go_wp2
        go_step3
        refine ⟨rfl, ⟨_, _, _, _, _, _, _, _, _, _, _, _, _, _, _, _, _, _, _, _, _, _, _, _, A2, m + 1, c2', 0, (y + 1), rfl, HJ.out⟩, ?_⟩
        simp only [sliceLen, Array.getD]
        show 36 - (m + 1) < 36 - m
        omega
      · have HEND : Hid (mvP f y (x + 1) = mv f 6) := by
          rw [HUP.out]
          have h := mv_more (f := f) (n := y + 1) (6 - (y + 1)) (fun j h1 h2 => by
            have hz : f (y + 1) ≤ 0 := by
              by_cases h : 0 < f (y + 1)
              · refine absurd ?_ hup
                simp only [biteB, decide_eq_true_eq]
                rw [show ((y : Int) + 1).toNat = y + 1 by omega]
                omega
              · omega
            have := HF.out.anti h1
            omega)
          rw [show y + 1 + (6 - (y + 1)) = 6 by omega] at h
          exact h.symm
        have HBT : Hid (biteB f 0 ((y : Int) + 1) = false) := by simpa [Hid] using hup
        clear hup
        go_wp2_with fail
        refine (HIB.out _).mono ?_; rintro e w3 ⟨rfl, hi3⟩
        rw [HBT.out]
        have own3 := own_later O3h.out hi3 (Nat.le_refl _)
        have hB3 : Below w.heap.size w w3 := BL3h.out.trans (hi3.mono BL3h.out.size)
        rw [HEND.out] at own3
        have hm2 : Hid ((mv f 6).length = m) := by have h := hm.out; rw [HEND.out] at h; exact h
        clear hi3 e0 e1 e2 e3 e4 e5 d0 d1 z0 z1 hd HIB T1 F3h O3h BL3h
        go_wp2
        simp only [Exit.jump]
        go_ret
        exact ⟨A', m, c', rfl, hm35, hm2.out, own_base own3 (by omega), hB3⟩

end Go.Proofs.Ytghlgmbekgfmnaa
