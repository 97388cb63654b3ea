/-
  Contract: the costs behind one break.
-/
import Derived.Test.YtobncknlipeinaaMapE
import Derived.Test.YtobncknlipeinaaEatS
import Derived.Test.YtobncknlipeinaaLines
import Derived.Test.YtobncknlipeinaaReg
import Derived.Deep.RegionHeld3
import Derived.StillTailTactics
namespace Go.Proofs.Ytobncknlipeinaa
open Go.RowKit Go.Maps
set_option linter.unusedVariables false
set_option linter.unusedSimpArgs false

theorem step_store_rowC {P : Program} {ops : Array Oper} {o : Oper} {a : Act} {w : World} {K : Act → World → Prop} {Q : Exit → Act → World → Prop} {E : Prop} (hgd : o.guard = none) (ty : TypeId) (x y : Operand) (ho : o.op = .store ty x y)
    (g : Nat) (cells : Array Value) (hx : a.eval x = .pointer (some ⟨g, 0, none⟩)) (hy : a.eval y = .agg cells)
    (t : TypeId) (old : Array Value) (hg : w.heap[g]? = some (.cells old t (0, 0))) (hi : (P.info? ty).map (·.size) = some cells.size)
    (hold : old.size = cells.size) (h1 : cells.all (·.oneCell') = true)
    (h : K (a.put o.dst undef) (w.setRow g cells)) : if Region.wanted o (yielded ops a.tmps) = true then Oper.wp P o a w K Q else E := by
  have hw : Region.wanted o (yielded ops a.tmps) = true := by simp [Region.wanted, hgd]
  rw [if_pos hw]
  exact wp_store_row ty x y ho g cells hx hy t old hg hi hold h1 h

def lenE (q : Int × Int) (d : Bool) : Int := if d then q.2 else q.1
set_option maxHeartbeats 400000 in
theorem lengthOfLineE_any (x y : Int) (d : Bool) (w : World) :
    Calls Try.prog 47 #[bar2 x y, .bool d] w fun e w' => e = .returned (.int .i64 (lenE (x, y) d)) ∧ Below w.heap.size w w' := by
  cases d
  all_goals
    go_enter Try.func47, Try.ntmps47
    go_wp2
    go_ret
    exact ⟨rfl, by (repeat (first | (with_reducible exact Below.refl _ _) | (with_reducible assumption) | (with_reducible refine Below.drew ?_) | ((with_reducible refine balloc ?_ _ ?_); · (first | (simp; done) | (simp; omega) | omega)) | ((with_reducible refine bset ?_ _ ?_); · (first | (simp; done) | (simp; omega) | omega)) | (with_reducible refine bdrewN _ ?_) | ((with_reducible refine bcall ?_ (by assumption) ?_); · (first | (simp; done) | (simp; omega) | omega))))⟩

/-- what s squares behind a break may cost -/
def BehS (F1 F2 : Nat → Int) (A1 A2 L s : Nat) (x : Int) : Prop := ∃ i j, i ≤ A1 ∧ j ≤ A2 ∧ i + j = s ∧ x = ((L * L : Nat) : Int) + F1 i + F2 j

/-- what s squares cost whose first part is eaten by fewer than k squares; by k squares and fewer than m of the other -/
def BehK (F1 F2 : Nat → Int) (A2 L k s : Nat) (x : Int) : Prop := ∃ i j, i < k ∧ j ≤ A2 ∧ i + j = s ∧ x = ((L * L : Nat) : Int) + F1 i + F2 j
def BehJ (F1 F2 : Nat → Int) (A2 L k m s : Nat) (x : Int) : Prop := BehK F1 F2 A2 L k s x ∨ ∃ j, j < m ∧ k + j = s ∧ x = ((L * L : Nat) : Int) + F1 k + F2 j
theorem behK_zero {F1 F2 : Nat → Int} {A2 L s : Nat} {x : Int} : ¬ BehK F1 F2 A2 L 0 s x := by
  rintro ⟨i, j, h, _⟩; omega
theorem behJ_zero {F1 F2 : Nat → Int} {A2 L k s : Nat} {x : Int} : BehJ F1 F2 A2 L k 0 s x ↔ BehK F1 F2 A2 L k s x :=
  ⟨fun h => by rcases h with h | ⟨j, h, _⟩; exact h; omega, .inl⟩
theorem behJ_all {F1 F2 : Nat → Int} {A2 L k s : Nat} {x : Int} : BehJ F1 F2 A2 L k (A2 + 1) s x ↔ BehK F1 F2 A2 L (k + 1) s x := by
  constructor
  · rintro (⟨i, j, h1, h2, h3, e⟩ | ⟨j, h1, h2, e⟩)
    · exact ⟨i, j, by omega, h2, h3, e⟩
    · exact ⟨k, j, by omega, by omega, h2, e⟩
  · rintro ⟨i, j, h1, h2, h3, e⟩
    by_cases hi : i = k
    · subst hi; exact .inr ⟨j, by omega, h3, e⟩
    · exact .inl ⟨i, j, by omega, h2, h3, e⟩
theorem behK_all {F1 F2 : Nat → Int} {A1 A2 L s : Nat} {x : Int} : BehK F1 F2 A2 L (A1 + 1) s x ↔ BehS F1 F2 A1 A2 L s x := by
  constructor
  · rintro ⟨i, j, h1, h2, h3, e⟩; exact ⟨i, j, by omega, h2, h3, e⟩
  · rintro ⟨i, j, h1, h2, h3, e⟩; exact ⟨i, j, by omega, h2, h3, e⟩
theorem behJ_step {F1 F2 : Nat → Int} {A2 L k m : Nat} {f : Nat → Int} {v : Int} (hv : v = ((L * L : Nat) : Int) + F1 k + F2 m) (hv0 : 0 ≤ v) (h0 : 0 ≤ f (k + m))
    (h : ∀ s, s < 145 → IsMin (fun x => BehJ F1 F2 A2 L k m s x ∨ x = 20736) (f s)) :
    ∀ s, s < 145 → IsMin (fun x => BehJ F1 F2 A2 L k (m + 1) s x ∨ x = 20736) (if s = k + m then Min.min (f (k + m)) v else f s) := by
  intro s hs
  by_cases e : s = k + m
  · subst e
    rw [if_pos rfl]
    refine ((h _ hs).min h0 hv0).congr fun x => ?_
    constructor
    · rintro (((hx | ⟨j, h1, h2, e⟩) | hx) | hx)
      · exact .inl (.inl hx)
      · exact .inl (.inr ⟨j, by omega, h2, e⟩)
      · exact .inr hx
      · exact .inl (.inr ⟨m, by omega, rfl, hx.trans hv⟩)
    · rintro ((hx | ⟨j, h1, h2, e⟩) | hx)
      · exact .inl (.inl (.inl hx))
      · obtain rfl : j = m := by omega
        exact .inr (e.trans hv.symm)
      · exact .inl (.inr hx)
  · rw [if_neg e]
    refine (h s hs).congr fun x => ?_
    constructor
    · rintro ((hx | ⟨j, h1, h2, e⟩) | hx)
      · exact .inl (.inl hx)
      · exact .inl (.inr ⟨j, by omega, h2, e⟩)
      · exact .inr hx
    · rintro ((hx | ⟨j, h1, h2, e2⟩) | hx)
      · exact .inl (.inl hx)
      · exact .inl (.inr ⟨j, by omega, h2, e2⟩)
      · exact .inr hx
theorem beh_in {S : Int → Prop} {v : Int} (h : IsMin (fun x => S x ∨ x = 20736) v) : 0 ≤ v ∧ v ≤ 20736 := h.le (.inr rfl)

set_option maxRecDepth 100000 in
set_option maxHeartbeats 4000000 in
theorem costsBehind_any (x y : Int) (d : Bool) (t : Int) (p q r s L mb n : Nat) (M : C3) (w : World) (hB : barB x y = true) (hC : canB x y d t = true) (hp : part1 x y d t = ((p : Int), (q : Int))) (hr : part2 x y d t = ((r : Int), (s : Int))) (hL : lenE (x, y) d = (L : Int)) (hL2 : L ≤ 12)
    (hp1 : p ≤ 12) (hq1 : q ≤ 12) (hr1 : r ≤ 12) (hs1 : s ≤ 12) (hA : p * q + r * s ≤ 144) (hM : MapE w mb n M) (hMB : ∀ a b k, 0 ≤ M a b k ∧ M a b k ≤ 20736) :
    Calls Try.prog 32 #[bar2 x y, .bool d, .int .i64 t, .map (some mb)] w fun e w' => ∃ f : Nat → Int, e = .returned (.agg (arrE f)) ∧ (∀ k, k < 145 → IsMin (fun v => BehS (M (max p q) (min p q)) (M (max r s) (min r s)) (p * q) (r * s) L k v ∨ v = 20736) (f k)) ∧ Below w.heap.size w w' := by
  have hpo := fun wx => partsOf_any x y d t wx hB hC
  rw [hp, hr] at hpo
  have hln := fun wx => lengthOfLineE_any x y d wx
  rw [hL] at hln
  obtain ⟨P1, hP1⟩ : ∃ P1, P1 = max p q := ⟨_, rfl⟩
  obtain ⟨Q1, hQ1⟩ : ∃ Q1, Q1 = min p q := ⟨_, rfl⟩
  obtain ⟨P2, hP2⟩ : ∃ P2, P2 = max r s := ⟨_, rfl⟩
  obtain ⟨Q2, hQ2⟩ : ∃ Q2, Q2 = min r s := ⟨_, rfl⟩
  have hl1 := fun wx => lying_any (p : Int) (q : Int) wx
  rw [show max (p : Int) (q : Int) = (P1 : Int) by omega, show min (p : Int) (q : Int) = (Q1 : Int) by omega] at hl1
  have hl2 := fun wx => lying_any (r : Int) (s : Int) wx
  rw [show max (r : Int) (s : Int) = (P2 : Int) by omega, show min (r : Int) (s : Int) = (Q2 : Int) by omega] at hl2
  rw [← hP1, ← hQ1, ← hP2, ← hQ2]
  obtain ⟨F1, hF1⟩ : ∃ F1, F1 = M P1 Q1 := ⟨_, rfl⟩
  obtain ⟨F2, hF2⟩ : ∃ F2, F2 = M P2 Q2 := ⟨_, rfl⟩
  rw [← hF1, ← hF2]
  obtain ⟨V1, hV1⟩ : ∃ V1, V1 = arrE F1 := ⟨_, rfl⟩
  obtain ⟨V2, hV2⟩ : ∃ V2, V2 = arrE F2 := ⟨_, rfl⟩
  have HK1 : Hid (∀ wx, MapE wx mb n M → (Instr.lookup 51 (.map (some mb)) (bar2 P1 Q1) false).run Try.prog wx = .ok (.agg V1) wx) := fun wx h => by rw [hV1, hF1]; exact h.look (by omega) (by omega)
  have HK2 : Hid (∀ wx, MapE wx mb n M → (Instr.lookup 51 (.map (some mb)) (bar2 P2 Q2) false).run Try.prog wx = .ok (.agg V2) wx) := fun wx h => by rw [hV2, hF2]; exact h.look (by omega) (by omega)
  have HB1 : Hid (∀ k, 0 ≤ F1 k ∧ F1 k ≤ 20736) := fun k => by rw [hF1]; exact hMB _ _ k
  have HB2 : Hid (∀ k, 0 ≤ F2 k ∧ F2 k ≤ 20736) := fun k => by rw [hF2]; exact hMB _ _ k
  have HPO := Lib.hid hpo
  have HLN := Lib.hid hln
  have HL1 := Lib.hid hl1
  have HL2 := Lib.hid hl2
  have HMM := Lib.hid hM
  have hmb := hM.lt
  have HV1 := Lib.hid hV1
  have HV2 := Lib.hid hV2
  clear hpo hln hl1 hl2 hM hMB hB hC hp hr hL hP1 hQ1 hP2 hQ2 hF1 hF2 hV1 hV2
  have zc : zc_50 = arrE (fun _ => 0) := by rw [← zero_arrE]; kernel_rfl
  have HZC := Lib.hid zc
  clear zc
  have hzf := fun wx => zero_50 wx; have hze := zc_50_ne
  go_enter Try.func32, Try.ntmps32
  go_wp2_with fail
  refine (HPO.out _).mono ?_; rintro e w1 ⟨rfl, hb1⟩; have s1 := hb1.size; obtain ⟨hc1, hf1⟩ := bcell hb1; have z1_w0 : w.heap.size < w1.heap.size := (by have q := s1; first | omega | (simp at q; omega)); have z1_w1 : w.heap.size + 1 < w1.heap.size := (by have q := s1; first | omega | (simp at q; omega))
  go_wp2
  rename_i K hK0
  have hb1' : Below w.heap.size w w1 := by
    refine Below.trans ?_ (hb1.mono (by simp; omega)); exact ((Below.refl _ _).alloc (Nat.le_refl _) _).alloc (by simp) _
  obtain ⟨W0, hW0⟩ : ∃ W0, W0 = (w1.alloc (.cells #[.int .i64 p, .int .i64 q] 26)).alloc (.cells #[.int .i64 r, .int .i64 s] 26) := ⟨_, rfl⟩
  have sW0 : W0.heap.size = w1.heap.size + 2 := by rw [hW0]; simp
  have bW0 : Below w.heap.size w W0 := by rw [hW0]; exact (hb1'.alloc (by omega) _).alloc (by simp; omega) _
  have cz0 : W0.cell? ⟨w.heap.size, 0, none⟩ = some (.int .i64 x) := by
    rw [hW0]; (repeat (first | (with_reducible refine cell_drew ?_) | (with_reducible refine cell_drewN _ ?_) | ((with_reducible refine cell_alloc ?_ ?_); · first | omega | (simp; done) | (simp; omega) | assumption) | ((with_reducible refine cell_set ?_ ?_); · first | (intro e; injection e; omega) | (intro e; simp at e; done) | (intro e; simp at e; omega)))); first | done | (refine (hc1 _ _ (by simp; omega)).trans ?_; simp [go_sem]) | (simp; omega)
  have cz1 : W0.cell? ⟨w.heap.size, 1, none⟩ = some (.int .i64 y) := by
    rw [hW0]; (repeat (first | (with_reducible refine cell_drew ?_) | (with_reducible refine cell_drewN _ ?_) | ((with_reducible refine cell_alloc ?_ ?_); · first | omega | (simp; done) | (simp; omega) | assumption) | ((with_reducible refine cell_set ?_ ?_); · first | (intro e; injection e; omega) | (intro e; simp at e; done) | (intro e; simp at e; omega)))); first | done | (refine (hc1 _ _ (by simp; omega)).trans ?_; simp [go_sem]) | (simp; omega)
  have hres : RowE W0 (w.heap.size + 1) (fun _ => 0) := by
    rw [hW0]
    refine RowE.alloc (RowE.alloc ?_ _) _
    refine RowE.below ?_ hb1 (by simp)
    have h := RowE.new (w.alloc (.cells #[.int .i64 x, .int .i64 y] 26)) (fun _ => 0)
    rw [HZC.out]; simpa using h
  obtain ⟨a, hAe⟩ : ∃ a, a = w1.heap.size := ⟨_, rfl⟩
  have ca0 : W0.cell? ⟨a, 0, none⟩ = some (.int .i64 p) := by rw [hW0, hAe]; simp [go_sem]
  have ca1 : W0.cell? ⟨a, 1, none⟩ = some (.int .i64 q) := by rw [hW0, hAe]; simp [go_sem]
  have ca2 : W0.cell? ⟨a + 1, 0, none⟩ = some (.int .i64 r) := by rw [hW0, hAe]; simp [go_sem]
  have ca3 : W0.cell? ⟨a + 1, 1, none⟩ = some (.int .i64 s) := by rw [hW0, hAe]; simp [go_sem]
  have hMW : MapE W0 mb n M := HMM.out.below bW0 hmb
  rw [← hW0, ← hAe]
  rw [← hAe] at sW0 z1_w0 z1_w1
  clear hW0 hAe hc1 hf1 hb1 hb1' HMM HPO s1
  have HS : Hid (∀ wx : World, Below W0.heap.size W0 wx → (fun w' : World => w'.cell? ⟨a, 0, none⟩ = some (.int .i64 p) ∧ w'.cell? ⟨a, 1, none⟩ = some (.int .i64 q) ∧ w'.cell? ⟨a + 1, 0, none⟩ = some (.int .i64 r) ∧ w'.cell? ⟨a + 1, 1, none⟩ = some (.int .i64 s) ∧ (Instr.lookup 51 (.map (some mb)) (bar2 P1 Q1) false).run Try.prog w' = .ok (.agg V1) w' ∧ (Instr.lookup 51 (.map (some mb)) (bar2 P2 Q2) false).run Try.prog w' = .ok (.agg V2) w') wx) := fun wx h => by
    have hm := hMW.below h hMW.lt
    exact ⟨(h.cell (p := ⟨a, 0, none⟩) (by show a < _; omega)).trans ca0, (h.cell (p := ⟨a, 1, none⟩) (by show a < _; omega)).trans ca1, (h.cell (p := ⟨a + 1, 0, none⟩) (by show a + 1 < _; omega)).trans ca2, (h.cell (p := ⟨a + 1, 1, none⟩) (by show a + 1 < _; omega)).trans ca3, HK1.out _ hm, HK2.out _ hm⟩
  have HNEW : Hid (∀ wx : World, Below W0.heap.size W0 wx → ∃ wn g, wn = wx.alloc (.cells zc_50 50) ∧ g = wx.heap.size ∧ RowE wn g (fun _ => 0) ∧ Below W0.heap.size W0 wn ∧ W0.heap.size ≤ g ∧ ∀ g' f, RowE wx g' f → RowE wn g' f ∧ g' ≠ g) := fun wx h =>
    ⟨_, _, rfl, rfl, by rw [HZC.out]; exact RowE.new wx _, h.alloc h.size _, h.size, fun g' f hr => ⟨hr.alloc _, by have := hr.lt; omega⟩⟩
  have HSTO : Hid (∀ (wx : World) (g : Nat) (F G : Nat → Int) (V : Array Value), V = arrE F → Below W0.heap.size W0 wx → W0.heap.size ≤ g → RowE wx g G → ∃ wn, wn = wx.setRow g V ∧ RowE wn g F ∧ Below W0.heap.size W0 wn ∧ ∀ g' f, g' ≠ g → RowE wx g' f → RowE wn g' f) := fun wx g F G V hV hb hg hr => by
    subst hV
    exact ⟨_, rfl, setRow_heap wx g _ (arrE F) _ _ hr, below_setRowE hb hg _, fun g' f hn h => by unfold RowE at h ⊢; rw [setRow_other wx g g' _ hn]; exact h⟩
  have HI1 : Hid ((Try.prog.info? 50).map (·.size) = some V1.size ∧ V1.size = 145 ∧ V1.all (·.oneCell') = true) := by
    have e : V1.size = 145 := by rw [HV1.out]; exact size_arrE _
    refine ⟨?_, e, ?_⟩
    · rw [e]; kernel_rfl
    · rw [HV1.out]; exact oneCell_arrE _
  have HI2 : Hid ((Try.prog.info? 50).map (·.size) = some V2.size ∧ V2.size = 145 ∧ V2.all (·.oneCell') = true) := by
    have e : V2.size = 145 := by rw [HV2.out]; exact size_arrE _
    refine ⟨?_, e, ?_⟩
    · rw [e]; kernel_rfl
    · rw [HV2.out]; exact oneCell_arrE _
  have HCZ : Hid (W0.cell? ⟨w.heap.size, 0, none⟩ = some (.int .i64 x) ∧ W0.cell? ⟨w.heap.size, 1, none⟩ = some (.int .i64 y) ∧ RowE W0 (w.heap.size + 1) (fun _ => 0)) := ⟨cz0, cz1, hres⟩
  have HBW := Lib.hid bW0
  clear cz0 cz1 hres ca0 ca1 ca2 ca3 hMW bW0 HK1 HK2
  have TAIL : ∀ (g1 g2 : Nat) (W : World), RowE W g1 F1 → RowE W g2 F2 → Below W0.heap.size W0 W → K { tmps := #[bar2 x y, .bool d, .int .i64 t, .map (some mb), .pointer (some ⟨w.heap.size, 0, none⟩), undef, undef, undef, .pointer (some ⟨w.heap.size + 1, 0, none⟩), .pointer (some ⟨a, 0, none⟩), .pointer (some ⟨a + 1, 0, none⟩), .pointer (some ⟨g1, 0, none⟩), .pointer (some ⟨g2, 0, none⟩), undef, undef, undef, undef, .tuple #[bar2 p q, bar2 r s], .agg #[.int .i64 x, .int .i64 y], .bool d, .int .i64 t, .tuple #[bar2 p q, bar2 r s], bar2 p q, bar2 r s, .map (some mb), bar2 p q, bar2 P1 Q1, .agg V1, .map (some mb), bar2 r s, bar2 P2 Q2, .agg V2, undef, undef, undef, undef, undef, undef, undef, undef, undef, undef, undef, undef, undef, undef, undef, undef, undef, undef, undef, undef, undef, undef, undef, undef, undef, undef, undef, undef, undef, undef, undef, undef, undef, undef, undef, undef, undef, undef, undef, undef, undef, undef, undef, undef], defers := [] } W := by
    intro g1 g2 W r1 r2 bW
    refine hK0 _ _ ?_
    obtain ⟨cz0, cz1, hres⟩ := HCZ.out
    have hsW := bW.size
    have e0 := (bW.cell (p := ⟨w.heap.size, 0, none⟩) (by show w.heap.size < _; omega)).trans cz0
    have e1 := (bW.cell (p := ⟨w.heap.size, 1, none⟩) (by show w.heap.size < _; omega)).trans cz1
    obtain ⟨VH, hVH⟩ : ∃ VH, VH = arrE (fun _ => 20736) := ⟨_, rfl⟩
    have HHI : Hid (∀ wx, Calls Try.prog 48 #[] wx fun e w' => e = .returned (.agg VH) ∧ Below wx.heap.size wx w') := fun wx => by rw [hVH]; exact highCosts_any wx
    have HIH : Hid ((Try.prog.info? 50).map (·.size) = some VH.size ∧ VH.size = 145 ∧ VH.all (·.oneCell') = true) := by
      have e : VH.size = 145 := by rw [hVH]; exact size_arrE _
      refine ⟨?_, e, ?_⟩
      · rw [e]; kernel_rfl
      · rw [hVH]; exact oneCell_arrE _
    have HVH := Lib.hid hVH
    have HR := Lib.hid (hres.below bW (by omega))
    have HC := Lib.hid (HS.out _ bW)
    have HBW2 := Lib.hid (HBW.out.trans (bW.mono HBW.out.size))
    have R1 := Lib.hid r1
    have R2 := Lib.hid r2
    have la := r1.lt
    have lb := r2.lt
    clear r1 r2 hres cz0 cz1 bW hVH HCZ HBW HNEW HSTO HI1 HI2 HV1 HV2 HL1 HL2 HS
    go_wp2_with fail
    refine (HLN.out _).mono ?_; rintro e w2 ⟨rfl, hb2⟩
    have s2 := hb2.size
    go_wp2_with fail
    refine (HHI.out _).mono ?_; rintro e w3 ⟨rfl, hb3⟩
    have s3 := hb3.size
    have HB3 := Lib.hid (hb2.trans (hb3.mono s2))
    have HNR : Hid (RowE (w3.alloc (.cells zc_50 50)) w3.heap.size (fun _ => 0)) := by rw [HZC.out]; exact RowE.new w3 _
    obtain ⟨w4, ew4⟩ : ∃ w4, w4 = (w3.alloc (.cells zc_50 50)).setRow w3.heap.size VH := ⟨_, rfl⟩
    have H4 : Hid (RowE w4 w3.heap.size (fun _ => 20736)) := by
      rw [ew4]
      have h := setRow_heap _ w3.heap.size _ VH _ _ HNR.out
      unfold RowE
      rw [← HVH.out]
      exact h
    have hb4 : Below w3.heap.size w3 w4 := by
      rw [ew4]
      exact below_setRowE ((Below.refl _ _).alloc (Nat.le_refl _) _) (Nat.le_refl _) _
    have s4 : w4.heap.size = w3.heap.size + 1 := by rw [ew4]; simp [World.setRow]
    clear e0 e1 hb2 hb3
    go_wp2_with (refine wpList_store_row rfl 50 (.tmp 14) (.tmp 35) rfl w3.heap.size VH rfl rfl _ (arrE fun _ => 0) HNR.out HIH.out.1 ((size_arrE _).trans HIH.out.2.1.symm) HIH.out.2.2 ?_)
    rw [← ew4]
    clear ew4
    obtain ⟨gH, hgH⟩ : ∃ g, g = w3.heap.size := ⟨_, rfl⟩
    rw [← hgH] at H4 s4 s3 hb4 ⊢
    have HBA := Lib.hid ((HB3.out.trans (hb4.mono (by omega))))
    have HC4 := Lib.hid (fun (i j : Nat) (hi : i < W.heap.size) => HBA.out.cell (p := ⟨i, j, none⟩) hi)
    obtain ⟨c0, c1, c2, c3, _, _⟩ := HC.out
    have d0 := (HC4.out a 0 (by omega)).trans c0
    have d1 := (HC4.out a 1 (by omega)).trans c1
    have d2 := (HC4.out (a + 1) 0 (by omega)).trans c2
    have d3 := (HC4.out (a + 1) 1 (by omega)).trans c3
    have HR4 := Lib.hid (HR.out.below HBA.out (by omega))
    have R14 := Lib.hid (R1.out.below HBA.out la)
    have R24 := Lib.hid (R2.out.below HBA.out lb)
    have HBB := Lib.hid (HBW2.out.trans (HBA.out.mono HBW2.out.size))
    have la4 : g1 < gH := by omega
    have lb4 : g2 < gH := by omega
    have lr4 : w.heap.size + 1 < gH := by omega
    have lc4 : a + 1 < gH := by omega
    clear hgH
    have HL4 : Hid (L * L ≤ 144) := Nat.le_trans (Nat.mul_le_mul hL2 hL2) (by omega)
    have hLL : IntKind.i64.wrap ((L : Int) * (L : Int)) = ((L * L : Nat) : Int) := by
      have := HL4.out
      rw [← Int.natCast_mul]
      exact IntWalk.i64_in _ (by omega)
    obtain ⟨LL, hLLe⟩ : ∃ z, z = L * L := ⟨_, rfl⟩
    obtain ⟨A1, hA1⟩ : ∃ z, z = p * q := ⟨_, rfl⟩
    obtain ⟨A2, hA2⟩ : ∃ z, z = r * s := ⟨_, rfl⟩
    have hw1 : IntKind.i64.wrap ((p : Int) * (q : Int)) = (A1 : Int) := by
      rw [← Int.natCast_mul, hA1]
      exact IntWalk.i64_in _ (by omega)
    have hw2 : IntKind.i64.wrap ((r : Int) * (s : Int)) = (A2 : Int) := by
      rw [← Int.natCast_mul, hA2]
      exact IntWalk.i64_in _ (by omega)
    rw [← hA1, ← hA2] at hA
    have HA1 := Lib.hid hA1
    have HA2 := Lib.hid hA2
    have HLLe := Lib.hid hLLe
    rw [← hLLe] at hLL HL4
    clear hA1 hA2 hLLe hb4 HB3 HNR HIH HVH HHI HLN c0 c1 c2 c3 HC HC4 HBA HR R1 R2 HBW2
    have HD := Lib.hid (And.intro d0 (And.intro d1 (And.intro d2 d3)))
    clear d0 d1 d2 d3
    go_loopw [15, 16] (fun i v wr => ∃ (k : Nat) (f : Nat → Int), k ≤ A1 + 1 ∧ i = .int .i64 k ∧ RowE wr gH f ∧ (∀ z, z < 145 → IsMin (fun v => BehK F1 F2 A2 L k z v ∨ v = 20736) (f z)) ∧ Below gH w4 wr) (fun i _ _ => A1 + 1 - (intOf i).toNat)
    case atStart => exact ⟨0, _, by omega, rfl, H4.out, fun z hz => (IsMin.one 20736 (by omega)).congr (fun v => ⟨.inr, fun h => by rcases h with h | h; exact absurd h behK_zero; exact h⟩), Below.refl _ _⟩
    case round =>
      obtain ⟨k, f, hk, rfl, hrow, hmin, hB⟩ := hrel
      have sB := hB.size
      have HCL : Hid (∀ wx : World, Below gH w4 wx → wx.cell? ⟨a, 0, none⟩ = some (.int .i64 p) ∧ wx.cell? ⟨a, 1, none⟩ = some (.int .i64 q) ∧ wx.cell? ⟨a + 1, 0, none⟩ = some (.int .i64 r) ∧ wx.cell? ⟨a + 1, 1, none⟩ = some (.int .i64 s)) := fun wx h =>
        ⟨(h.cell (p := ⟨a, 0, none⟩) (by show a < _; omega)).trans HD.out.1, (h.cell (p := ⟨a, 1, none⟩) (by show a < _; omega)).trans HD.out.2.1, (h.cell (p := ⟨a + 1, 0, none⟩) (by show a + 1 < _; omega)).trans HD.out.2.2.1, (h.cell (p := ⟨a + 1, 1, none⟩) (by show a + 1 < _; omega)).trans HD.out.2.2.2⟩
      obtain ⟨d0, d1, d2, d3⟩ := HCL.out _ hB
      by_cases hlt : k ≤ A1
      · have hlti : (k : Int) ≤ (A1 : Int) := by omega
        have HROW := Lib.hid hrow
        have HMIN := Lib.hid hmin
        have HB := Lib.hid hB
        clear hrow hmin hB
        go_wp2
        go_loopw [16] (fun v wi => ∃ (m : Nat) (h : Nat → Int), m ≤ A2 + 1 ∧ v = .int .i64 m ∧ RowE wi gH h ∧ (∀ z, z < 145 → IsMin (fun v => BehJ F1 F2 A2 L k m z v ∨ v = 20736) (h z)) ∧ Below gH w4 wi) (fun v _ => A2 + 1 - (intOf v).toNat)
        case atStart => exact ⟨0, f, by omega, rfl, HROW.out, fun z hz => (HMIN.out z hz).congr (fun v => by rw [behJ_zero]), HB.out⟩
        case round =>
          clear d0 d1 d2 d3
          obtain ⟨m, h, hm, rfl, hrow, hmin, hB⟩ := hrel
          obtain ⟨d0, d1, d2, d3⟩ := HCL.out _ hB
          by_cases hlm : m ≤ A2
          · have hlmi : (m : Int) ≤ (A2 : Int) := by omega
            obtain ⟨km, hkm⟩ : ∃ z, z = k + m := ⟨_, rfl⟩
            have hkl : km < 145 := by omega
            have wkm : IntKind.i64.wrap ((k : Int) + (m : Int)) = (km : Int) := by rw [show (k : Int) + (m : Int) = (km : Int) by omega]; exact IntWalk.i64_in _ (by omega)
            have q0 : wr.cell? ⟨gH, km, none⟩ = some (.int .i64 (h km)) := hrow.cell hkl
            have q1 : wr.cell? ⟨g1, k, none⟩ = some (.int .i64 (F1 k)) := (R14.out.below hB la4).cell (by omega)
            have q2 : wr.cell? ⟨g2, m, none⟩ = some (.int .i64 (F2 m)) := (R24.out.below hB lb4).cell (by omega)
            obtain ⟨b1, b2⟩ := HB1.out k
            obtain ⟨b3, b4⟩ := HB2.out m
            obtain ⟨b5, b6⟩ := beh_in (hmin km hkl)
            have hL4 := HL4.out
            obtain ⟨s1, hs1⟩ : ∃ z, z = (LL : Int) + F1 k := ⟨_, rfl⟩
            have ws1 : IntKind.i64.wrap ((LL : Int) + F1 k) = s1 := by rw [← hs1]; exact IntWalk.i64_in _ (by omega)
            obtain ⟨s2, hs2⟩ : ∃ z, z = s1 + F2 m := ⟨_, rfl⟩
            have ws2 : IntKind.i64.wrap (s1 + F2 m) = s2 := by rw [← hs2]; exact IntWalk.i64_in _ (by omega)
            have HMN := Lib.hid (behJ_step (f := h) (v := s2) (k := k) (m := m) (by rw [hs2, hs1, HLLe.out]) (by omega) (by rw [← hkm]; exact b5) hmin)
            rw [← hkm] at HMN
            have frz := hrow.free km
            have HST := Lib.hid (fun v => (hrow.drew.set km v))
            have HBS := Lib.hid (fun v => hB.drew.setCell (p := ⟨gH, km, none⟩) (Nat.le_refl _) v)
            have y1 : (k : Int) < 145 := by omega
            have y2 : (m : Int) < 145 := by omega
            have y3 : (km : Int) < 145 := by omega
            have y4 : k < 145 := by omega
            have y5 : m < 145 := by omega
            have HHK := Lib.hid hkm
            clear hrow hmin hB HMIN HROW hkm hs1 hs2
            generalize h km = c at *
            generalize F1 k = c1 at *
            generalize F2 m = c2 at *
            rcases (show c < s2 ∨ c = s2 ∨ s2 < c by omega) with hc | hc | hc
            · have hmn : Min.min c s2 = c := by omega
              rw [hmn] at HMN
              have hc2 : ¬ s2 < c := by omega
              have hc3 : ¬ s2 ≤ c := by omega
              clear hmn
              go_wp2
              clear d0 d1 d2 d3
              go_still_tail 21, (by kernel_rfl)
              repeat still_step
              change wpList _ _ _ _ _ wr.drew
              have c7d : wr.drew.cell? ⟨gH, km, none⟩ = some (.int .i64 c) := q0
              have f7d : wr.drew.frozen? ⟨gH, km, none⟩ = false := frz
              clear q0 frz q1 q2
              go_wp2
              go_roundw
              case rel => exact ⟨m + 1, _, by omega, by go_num, HST.out _, HMN.out, HBS.out _⟩
              case measure => simp [intOf]; omega
            · have hmn : Min.min c s2 = c := by omega
              rw [hmn] at HMN
              subst hc
              clear hmn
              go_wp2
              clear d0 d1 d2 d3
              go_still_tail 21, (by kernel_rfl)
              repeat still_step
              change wpList _ _ _ _ _ wr.drew
              have c7d : wr.drew.cell? ⟨gH, km, none⟩ = some (.int .i64 c) := q0
              have f7d : wr.drew.frozen? ⟨gH, km, none⟩ = false := frz
              clear q0 frz q1 q2
              go_wp2
              go_roundw
              case rel => exact ⟨m + 1, _, by omega, by go_num, HST.out _, HMN.out, HBS.out _⟩
              case measure => simp [intOf]; omega
            · have hmn : Min.min c s2 = s2 := by omega
              rw [hmn] at HMN
              have hc2 : ¬ c < s2 := by omega
              have hc3 : ¬ c ≤ s2 := by omega
              clear hmn
              go_wp2
              clear d0 d1 d2 d3
              go_still_tail 21, (by kernel_rfl)
              repeat still_step
              change wpList _ _ _ _ _ wr.drew
              have c7d : wr.drew.cell? ⟨gH, km, none⟩ = some (.int .i64 c) := q0
              have f7d : wr.drew.frozen? ⟨gH, km, none⟩ = false := frz
              clear q0 frz q1 q2
              go_wp2
              go_roundw
              case rel => exact ⟨m + 1, _, by omega, by go_num, HST.out _, HMN.out, HBS.out _⟩
              case measure => simp [intOf]; omega
          · obtain rfl : m = A2 + 1 := by omega
            have hnm : ¬ ((A2 + 1 : Nat) : Int) ≤ (A2 : Int) := by omega
            have HROWm := Lib.hid hrow
            have HMINm := Lib.hid hmin
            have HBm := Lib.hid hB
            clear hrow hmin hB HMIN HROW HB
            go_wp2
            go_roundw
            case rel => exact ⟨k + 1, h, by omega, by go_num, HROWm.out, fun z hz => (HMINm.out z hz).congr (fun v => by rw [behJ_all]), HBm.out⟩
            case measure => simp [intOf]; omega
      · obtain rfl : k = A1 + 1 := by omega
        have hnk : ¬ ((A1 + 1 : Nat) : Int) ≤ (A1 : Int) := by omega
        have hres := HR4.out.below hB lr4
        have HSET := Lib.hid (setRow_heap wr (w.heap.size + 1) _ (arrE f) _ _ hres)
        have HBR := Lib.hid (below_setRowE (HBB.out.trans (hB.mono (by omega))) (g := w.heap.size + 1) (by omega) (arrE f))
        have HROW := Lib.hid hrow
        have HRES := Lib.hid hres
        have HMN : Hid (∀ z, z < 145 → IsMin (fun v => BehS F1 F2 A1 A2 L z v ∨ v = 20736) (f z)) := fun z hz => (hmin z hz).congr (fun v => by rw [behK_all])
        rw [HA1.out, HA2.out] at HMN
        clear hrow hmin hB hres
        go_wp2_with (first | refine wpList_load_row rfl 50 _ rfl gH rfl _ (arrE f) _ _ HROW.out Try.underlying50 rfl (by rw [size_arrE]; kernel_rfl) ?_ | refine wpList_store_row rfl 50 _ _ rfl (w.heap.size + 1) (arrE f) rfl rfl _ _ HRES.out (by rw [size_arrE]; kernel_rfl) (by rw [size_arrE, size_arrE]) (oneCell_arrE _) ?_)
        refine bodyPost_ret (v := .agg (arrE f)) (results_cell_row Try.results32 _ _ (w.heap.size + 1) _ _ _ _ rfl HSET.out Try.underlying50 rfl (by rw [size_arrE]; kernel_rfl)) rfl ⟨f, rfl, HMN.out, HBR.out⟩
  have HT := Lib.hid TAIL
  clear TAIL hK0
  refine wp_region_held_drew (S := (fun w' => w'.cell? ⟨a, 0, none⟩ = some (.int .i64 p) ∧ w'.cell? ⟨a, 1, none⟩ = some (.int .i64 q) ∧ w'.cell? ⟨a + 1, 0, none⟩ = some (.int .i64 r) ∧ w'.cell? ⟨a + 1, 1, none⟩ = some (.int .i64 s) ∧ (Instr.lookup 51 (.map (some mb)) (bar2 P1 Q1) false).run Try.prog w' = .ok (.agg V1) w' ∧ (Instr.lookup 51 (.map (some mb)) (bar2 P2 Q2) false).run Try.prog w' = .ok (.agg V2) w')) (by kernel_rfl) ?_ (fun hHeld => ?_)
  · exact HS.out _ (Below.refl _ _).drew
  obtain ⟨v0, hv0⟩ : ∃ v0, v0 = W0.drew := ⟨_, rfl⟩
  have B0 : Below W0.heap.size W0 v0 := by rw [hv0]; exact (Below.refl _ _).drew
  rw [← hv0] at hHeld ⊢
  clear hv0
  have b0 := B0.size
  refine reg_on (i := 0) (d := 24) (v := ?rv1) rfl rfl (by kernel_rfl) (by kernel_rfl) (by kernel_rfl) (fun _ _ _ h => h) (by rfl) ?ry1 (by assumption) ?rr1
  case ry1 => (intro wz hSw; (try dsimp only at hSw); go_simp; try with_reducible rfl)
  (try simp only [Act.put, List.setIfInBounds_toArray, List.set_cons_zero, List.set_cons_succ])
  refine reg_on (i := 1) (d := 25) (v := ?rv2) rfl rfl (by kernel_rfl) (by kernel_rfl) (by kernel_rfl) (fun _ _ _ h => h) (by rfl) ?ry2 (by assumption) ?rr2
  case ry2 => (intro wz hSw; (try dsimp only at hSw); go_simp; try with_reducible rfl)
  (try simp only [Act.put, List.setIfInBounds_toArray, List.set_cons_zero, List.set_cons_succ])
  refine reg_on (i := 4) (d := 28) (v := ?rv3) rfl rfl (by kernel_rfl) (by kernel_rfl) (by kernel_rfl) (fun _ _ _ h => h) (by rfl) ?ry3 (by assumption) ?rr3
  case ry3 => (intro wz hSw; (try dsimp only at hSw); go_simp; try with_reducible rfl)
  (try simp only [Act.put, List.setIfInBounds_toArray, List.set_cons_zero, List.set_cons_succ])
  refine reg_on (i := 5) (d := 29) (v := ?rv4) rfl rfl (by kernel_rfl) (by kernel_rfl) (by kernel_rfl) (fun _ _ _ h => h) (by rfl) ?ry4 (by assumption) ?rr4
  case ry4 => (intro wz hSw; (try dsimp only at hSw); go_simp; try with_reducible rfl)
  (try simp only [Act.put, List.setIfInBounds_toArray, List.set_cons_zero, List.set_cons_succ])
  refine wpAnyH_ready (rs := [2, 8, 9]) (by kernel_rfl) (by simp) ?_
  refine AllReadyH.cons rfl (fun K2 hK => ?_) (AllReadyH.cons rfl (fun K2 hK => ?_) (AllReadyH.cons rfl (fun K2 hK => ?_) (AllReadyH.nil)))
  ·
    go_simp
    go_at_call 28; refine (HL1.out _).mono ?_; rintro e v1 ⟨rfl, h1⟩
    have B1 : Below W0.heap.size W0 v1 := B0.trans (h1.mono b0)
    have b1 := B1.size
    clear h1
    refine hK.out _ _ (HS.out _ B1) (fun hHeld => ?_)
    clear hK K2
    (try simp only [Act.put, List.setIfInBounds_toArray, List.set_cons_zero, List.set_cons_succ])
    refine reg_on (i := 3) (d := 27) (v := ?rv5) rfl rfl (by kernel_rfl) (by kernel_rfl) (by kernel_rfl) (fun _ _ _ h => h) (by rfl) ?ry5 (by assumption) ?rr5
    case ry5 => (intro wz hSw; (try dsimp only at hSw); go_simp; try with_reducible rfl)
    (try simp only [Act.put, List.setIfInBounds_toArray, List.set_cons_zero, List.set_cons_succ])
    refine wpAnyH_ready (rs := [6, 8, 9]) (by kernel_rfl) (by simp) ?_
    refine AllReadyH.cons rfl (fun K2 hK => ?_) (AllReadyH.cons rfl (fun K2 hK => ?_) (AllReadyH.cons rfl (fun K2 hK => ?_) (AllReadyH.nil)))
    ·
      go_simp
      go_at_call 28; refine (HL2.out _).mono ?_; rintro e v2 ⟨rfl, h2⟩
      have B2 : Below W0.heap.size W0 v2 := B1.trans (h2.mono b1)
      have b2 := B2.size
      clear h2
      refine hK.out _ _ (HS.out _ B2) (fun hHeld => ?_)
      clear hK K2
      (try simp only [Act.put, List.setIfInBounds_toArray, List.set_cons_zero, List.set_cons_succ])
      refine reg_on (i := 7) (d := 31) (v := ?rv6) rfl rfl (by kernel_rfl) (by kernel_rfl) (by kernel_rfl) (fun _ _ _ h => h) (by rfl) ?ry6 (by assumption) ?rr6
      case ry6 => (intro wz hSw; (try dsimp only at hSw); go_simp; try with_reducible rfl)
      (try simp only [Act.put, List.setIfInBounds_toArray, List.set_cons_zero, List.set_cons_succ])
      refine wpAnyH_ready (rs := [8, 9]) (by kernel_rfl) (by simp) ?_
      refine AllReadyH.cons rfl (fun K2 hK => ?_) (AllReadyH.cons rfl (fun K2 hK => ?_) (AllReadyH.nil))
      ·
        go_simp
        obtain ⟨v3, g8, ew, eg, r8_3, B3, l8, CC⟩ := HNEW.out _ B2
        rw [← ew, ← eg]
        have b3 := B3.size
        clear ew eg CC
        refine hK.out _ _ (HS.out _ B3) (fun hHeld => ?_)
        clear hK K2
        (try simp only [Act.put, List.setIfInBounds_toArray, List.set_cons_zero, List.set_cons_succ])
        refine wpAnyH_ready (rs := [9]) (by kernel_rfl) (by simp) ?_
        refine AllReadyH.cons rfl (fun K2 hK => ?_) (AllReadyH.nil)
        go_simp
        obtain ⟨v4, g9, ew, eg, r9_4, B4, l9, CC⟩ := HNEW.out _ B3
        rw [← ew, ← eg]
        have r8_4 := (CC _ _ r8_3).1
        have ne := (CC _ _ r8_3).2
        have b4 := B4.size
        clear ew eg CC
        refine hK.out _ _ (HS.out _ B4) (fun hHeld => ?_)
        clear hK K2
        (try simp only [Act.put, List.setIfInBounds_toArray, List.set_cons_zero, List.set_cons_succ])
        refine wpAnyH_ready (rs := [10]) (by kernel_rfl) (by simp) ?_
        refine AllReadyH.cons rfl (fun K2 hK => ?_) (AllReadyH.nil)
        refine step_store_rowC rfl 50 (.tmp 11) (.tmp 27) rfl g8 V1 rfl rfl _ (arrE fun _ => 0) r8_4 HI1.out.1 ((size_arrE _).trans HI1.out.2.1.symm) HI1.out.2.2 ?_
        obtain ⟨v5, ew, r8_5, B5, CC⟩ := HSTO.out _ g8 F1 _ V1 HV1.out B4 l8 r8_4
        rw [← ew]
        have r9_5 := CC _ _ (by omega) r9_4
        have b5 := B5.size
        clear ew CC
        refine hK.out _ _ (HS.out _ B5) (fun hHeld => ?_)
        clear hK K2
        (try simp only [Act.put, List.setIfInBounds_toArray, List.set_cons_zero, List.set_cons_succ])
        refine wpAnyH_ready (rs := [11]) (by kernel_rfl) (by simp) ?_
        refine AllReadyH.cons rfl (fun K2 hK => ?_) (AllReadyH.nil)
        refine step_store_rowC rfl 50 (.tmp 12) (.tmp 31) rfl g9 V2 rfl rfl _ (arrE fun _ => 0) r9_5 HI2.out.1 ((size_arrE _).trans HI2.out.2.1.symm) HI2.out.2.2 ?_
        obtain ⟨v6, ew, r9_6, B6, CC⟩ := HSTO.out _ g9 F2 _ V2 HV2.out B5 l9 r9_5
        rw [← ew]
        have r8_6 := CC _ _ (by omega) r8_5
        have b6 := B6.size
        clear ew CC
        refine hK.out _ _ (HS.out _ B6) (fun hHeld => ?_)
        clear hK K2
        (try simp only [Act.put, List.setIfInBounds_toArray, List.set_cons_zero, List.set_cons_succ])
        refine wpAnyH_done (by kernel_rfl) ?_ _
        exact HT.out _ _ _ r8_6 r9_6 B6
      ·
        go_simp
        obtain ⟨v3, g9, ew, eg, r9_3, B3, l9, CC⟩ := HNEW.out _ B2
        rw [← ew, ← eg]
        have b3 := B3.size
        clear ew eg CC
        refine hK.out _ _ (HS.out _ B3) (fun hHeld => ?_)
        clear hK K2
        (try simp only [Act.put, List.setIfInBounds_toArray, List.set_cons_zero, List.set_cons_succ])
        refine wpAnyH_ready (rs := [8]) (by kernel_rfl) (by simp) ?_
        refine AllReadyH.cons rfl (fun K2 hK => ?_) (AllReadyH.nil)
        go_simp
        obtain ⟨v4, g8, ew, eg, r8_4, B4, l8, CC⟩ := HNEW.out _ B3
        rw [← ew, ← eg]
        have r9_4 := (CC _ _ r9_3).1
        have ne := (CC _ _ r9_3).2
        have b4 := B4.size
        clear ew eg CC
        refine hK.out _ _ (HS.out _ B4) (fun hHeld => ?_)
        clear hK K2
        (try simp only [Act.put, List.setIfInBounds_toArray, List.set_cons_zero, List.set_cons_succ])
        refine wpAnyH_ready (rs := [10]) (by kernel_rfl) (by simp) ?_
        refine AllReadyH.cons rfl (fun K2 hK => ?_) (AllReadyH.nil)
        refine step_store_rowC rfl 50 (.tmp 11) (.tmp 27) rfl g8 V1 rfl rfl _ (arrE fun _ => 0) r8_4 HI1.out.1 ((size_arrE _).trans HI1.out.2.1.symm) HI1.out.2.2 ?_
        obtain ⟨v5, ew, r8_5, B5, CC⟩ := HSTO.out _ g8 F1 _ V1 HV1.out B4 l8 r8_4
        rw [← ew]
        have r9_5 := CC _ _ (by omega) r9_4
        have b5 := B5.size
        clear ew CC
        refine hK.out _ _ (HS.out _ B5) (fun hHeld => ?_)
        clear hK K2
        (try simp only [Act.put, List.setIfInBounds_toArray, List.set_cons_zero, List.set_cons_succ])
        refine wpAnyH_ready (rs := [11]) (by kernel_rfl) (by simp) ?_
        refine AllReadyH.cons rfl (fun K2 hK => ?_) (AllReadyH.nil)
        refine step_store_rowC rfl 50 (.tmp 12) (.tmp 31) rfl g9 V2 rfl rfl _ (arrE fun _ => 0) r9_5 HI2.out.1 ((size_arrE _).trans HI2.out.2.1.symm) HI2.out.2.2 ?_
        obtain ⟨v6, ew, r9_6, B6, CC⟩ := HSTO.out _ g9 F2 _ V2 HV2.out B5 l9 r9_5
        rw [← ew]
        have r8_6 := CC _ _ (by omega) r8_5
        have b6 := B6.size
        clear ew CC
        refine hK.out _ _ (HS.out _ B6) (fun hHeld => ?_)
        clear hK K2
        (try simp only [Act.put, List.setIfInBounds_toArray, List.set_cons_zero, List.set_cons_succ])
        refine wpAnyH_done (by kernel_rfl) ?_ _
        exact HT.out _ _ _ r8_6 r9_6 B6
    ·
      go_simp
      obtain ⟨v2, g8, ew, eg, r8_2, B2, l8, CC⟩ := HNEW.out _ B1
      rw [← ew, ← eg]
      have b2 := B2.size
      clear ew eg CC
      refine hK.out _ _ (HS.out _ B2) (fun hHeld => ?_)
      clear hK K2
      (try simp only [Act.put, List.setIfInBounds_toArray, List.set_cons_zero, List.set_cons_succ])
      refine wpAnyH_ready (rs := [6, 9]) (by kernel_rfl) (by simp) ?_
      refine AllReadyH.cons rfl (fun K2 hK => ?_) (AllReadyH.cons rfl (fun K2 hK => ?_) (AllReadyH.nil))
      ·
        go_simp
        go_at_call 28; refine (HL2.out _).mono ?_; rintro e v3 ⟨rfl, h3⟩
        have B3 : Below W0.heap.size W0 v3 := B2.trans (h3.mono b2)
        have r8_3 := r8_2.below h3 r8_2.lt
        have b3 := B3.size
        clear h3
        refine hK.out _ _ (HS.out _ B3) (fun hHeld => ?_)
        clear hK K2
        (try simp only [Act.put, List.setIfInBounds_toArray, List.set_cons_zero, List.set_cons_succ])
        refine reg_on (i := 7) (d := 31) (v := ?rv7) rfl rfl (by kernel_rfl) (by kernel_rfl) (by kernel_rfl) (fun _ _ _ h => h) (by rfl) ?ry7 (by assumption) ?rr7
        case ry7 => (intro wz hSw; (try dsimp only at hSw); go_simp; try with_reducible rfl)
        (try simp only [Act.put, List.setIfInBounds_toArray, List.set_cons_zero, List.set_cons_succ])
        refine wpAnyH_ready (rs := [9]) (by kernel_rfl) (by simp) ?_
        refine AllReadyH.cons rfl (fun K2 hK => ?_) (AllReadyH.nil)
        go_simp
        obtain ⟨v4, g9, ew, eg, r9_4, B4, l9, CC⟩ := HNEW.out _ B3
        rw [← ew, ← eg]
        have r8_4 := (CC _ _ r8_3).1
        have ne := (CC _ _ r8_3).2
        have b4 := B4.size
        clear ew eg CC
        refine hK.out _ _ (HS.out _ B4) (fun hHeld => ?_)
        clear hK K2
        (try simp only [Act.put, List.setIfInBounds_toArray, List.set_cons_zero, List.set_cons_succ])
        refine wpAnyH_ready (rs := [10]) (by kernel_rfl) (by simp) ?_
        refine AllReadyH.cons rfl (fun K2 hK => ?_) (AllReadyH.nil)
        refine step_store_rowC rfl 50 (.tmp 11) (.tmp 27) rfl g8 V1 rfl rfl _ (arrE fun _ => 0) r8_4 HI1.out.1 ((size_arrE _).trans HI1.out.2.1.symm) HI1.out.2.2 ?_
        obtain ⟨v5, ew, r8_5, B5, CC⟩ := HSTO.out _ g8 F1 _ V1 HV1.out B4 l8 r8_4
        rw [← ew]
        have r9_5 := CC _ _ (by omega) r9_4
        have b5 := B5.size
        clear ew CC
        refine hK.out _ _ (HS.out _ B5) (fun hHeld => ?_)
        clear hK K2
        (try simp only [Act.put, List.setIfInBounds_toArray, List.set_cons_zero, List.set_cons_succ])
        refine wpAnyH_ready (rs := [11]) (by kernel_rfl) (by simp) ?_
        refine AllReadyH.cons rfl (fun K2 hK => ?_) (AllReadyH.nil)
        refine step_store_rowC rfl 50 (.tmp 12) (.tmp 31) rfl g9 V2 rfl rfl _ (arrE fun _ => 0) r9_5 HI2.out.1 ((size_arrE _).trans HI2.out.2.1.symm) HI2.out.2.2 ?_
        obtain ⟨v6, ew, r9_6, B6, CC⟩ := HSTO.out _ g9 F2 _ V2 HV2.out B5 l9 r9_5
        rw [← ew]
        have r8_6 := CC _ _ (by omega) r8_5
        have b6 := B6.size
        clear ew CC
        refine hK.out _ _ (HS.out _ B6) (fun hHeld => ?_)
        clear hK K2
        (try simp only [Act.put, List.setIfInBounds_toArray, List.set_cons_zero, List.set_cons_succ])
        refine wpAnyH_done (by kernel_rfl) ?_ _
        exact HT.out _ _ _ r8_6 r9_6 B6
      ·
        go_simp
        obtain ⟨v3, g9, ew, eg, r9_3, B3, l9, CC⟩ := HNEW.out _ B2
        rw [← ew, ← eg]
        have r8_3 := (CC _ _ r8_2).1
        have ne := (CC _ _ r8_2).2
        have b3 := B3.size
        clear ew eg CC
        refine hK.out _ _ (HS.out _ B3) (fun hHeld => ?_)
        clear hK K2
        (try simp only [Act.put, List.setIfInBounds_toArray, List.set_cons_zero, List.set_cons_succ])
        refine wpAnyH_ready (rs := [6]) (by kernel_rfl) (by simp) ?_
        refine AllReadyH.cons rfl (fun K2 hK => ?_) (AllReadyH.nil)
        go_simp
        go_at_call 28; refine (HL2.out _).mono ?_; rintro e v4 ⟨rfl, h4⟩
        have B4 : Below W0.heap.size W0 v4 := B3.trans (h4.mono b3)
        have r8_4 := r8_3.below h4 r8_3.lt
        have r9_4 := r9_3.below h4 r9_3.lt
        have b4 := B4.size
        clear h4
        refine hK.out _ _ (HS.out _ B4) (fun hHeld => ?_)
        clear hK K2
        (try simp only [Act.put, List.setIfInBounds_toArray, List.set_cons_zero, List.set_cons_succ])
        refine reg_on (i := 7) (d := 31) (v := ?rv8) rfl rfl (by kernel_rfl) (by kernel_rfl) (by kernel_rfl) (fun _ _ _ h => h) (by rfl) ?ry8 (by assumption) ?rr8
        case ry8 => (intro wz hSw; (try dsimp only at hSw); go_simp; try with_reducible rfl)
        (try simp only [Act.put, List.setIfInBounds_toArray, List.set_cons_zero, List.set_cons_succ])
        refine wpAnyH_ready (rs := [10]) (by kernel_rfl) (by simp) ?_
        refine AllReadyH.cons rfl (fun K2 hK => ?_) (AllReadyH.nil)
        refine step_store_rowC rfl 50 (.tmp 11) (.tmp 27) rfl g8 V1 rfl rfl _ (arrE fun _ => 0) r8_4 HI1.out.1 ((size_arrE _).trans HI1.out.2.1.symm) HI1.out.2.2 ?_
        obtain ⟨v5, ew, r8_5, B5, CC⟩ := HSTO.out _ g8 F1 _ V1 HV1.out B4 l8 r8_4
        rw [← ew]
        have r9_5 := CC _ _ (by omega) r9_4
        have b5 := B5.size
        clear ew CC
        refine hK.out _ _ (HS.out _ B5) (fun hHeld => ?_)
        clear hK K2
        (try simp only [Act.put, List.setIfInBounds_toArray, List.set_cons_zero, List.set_cons_succ])
        refine wpAnyH_ready (rs := [11]) (by kernel_rfl) (by simp) ?_
        refine AllReadyH.cons rfl (fun K2 hK => ?_) (AllReadyH.nil)
        refine step_store_rowC rfl 50 (.tmp 12) (.tmp 31) rfl g9 V2 rfl rfl _ (arrE fun _ => 0) r9_5 HI2.out.1 ((size_arrE _).trans HI2.out.2.1.symm) HI2.out.2.2 ?_
        obtain ⟨v6, ew, r9_6, B6, CC⟩ := HSTO.out _ g9 F2 _ V2 HV2.out B5 l9 r9_5
        rw [← ew]
        have r8_6 := CC _ _ (by omega) r8_5
        have b6 := B6.size
        clear ew CC
        refine hK.out _ _ (HS.out _ B6) (fun hHeld => ?_)
        clear hK K2
        (try simp only [Act.put, List.setIfInBounds_toArray, List.set_cons_zero, List.set_cons_succ])
        refine wpAnyH_done (by kernel_rfl) ?_ _
        exact HT.out _ _ _ r8_6 r9_6 B6
    ·
      go_simp
      obtain ⟨v2, g9, ew, eg, r9_2, B2, l9, CC⟩ := HNEW.out _ B1
      rw [← ew, ← eg]
      have b2 := B2.size
      clear ew eg CC
      refine hK.out _ _ (HS.out _ B2) (fun hHeld => ?_)
      clear hK K2
      (try simp only [Act.put, List.setIfInBounds_toArray, List.set_cons_zero, List.set_cons_succ])
      refine wpAnyH_ready (rs := [6, 8]) (by kernel_rfl) (by simp) ?_
      refine AllReadyH.cons rfl (fun K2 hK => ?_) (AllReadyH.cons rfl (fun K2 hK => ?_) (AllReadyH.nil))
      ·
        go_simp
        go_at_call 28; refine (HL2.out _).mono ?_; rintro e v3 ⟨rfl, h3⟩
        have B3 : Below W0.heap.size W0 v3 := B2.trans (h3.mono b2)
        have r9_3 := r9_2.below h3 r9_2.lt
        have b3 := B3.size
        clear h3
        refine hK.out _ _ (HS.out _ B3) (fun hHeld => ?_)
        clear hK K2
        (try simp only [Act.put, List.setIfInBounds_toArray, List.set_cons_zero, List.set_cons_succ])
        refine reg_on (i := 7) (d := 31) (v := ?rv9) rfl rfl (by kernel_rfl) (by kernel_rfl) (by kernel_rfl) (fun _ _ _ h => h) (by rfl) ?ry9 (by assumption) ?rr9
        case ry9 => (intro wz hSw; (try dsimp only at hSw); go_simp; try with_reducible rfl)
        (try simp only [Act.put, List.setIfInBounds_toArray, List.set_cons_zero, List.set_cons_succ])
        refine wpAnyH_ready (rs := [8]) (by kernel_rfl) (by simp) ?_
        refine AllReadyH.cons rfl (fun K2 hK => ?_) (AllReadyH.nil)
        go_simp
        obtain ⟨v4, g8, ew, eg, r8_4, B4, l8, CC⟩ := HNEW.out _ B3
        rw [← ew, ← eg]
        have r9_4 := (CC _ _ r9_3).1
        have ne := (CC _ _ r9_3).2
        have b4 := B4.size
        clear ew eg CC
        refine hK.out _ _ (HS.out _ B4) (fun hHeld => ?_)
        clear hK K2
        (try simp only [Act.put, List.setIfInBounds_toArray, List.set_cons_zero, List.set_cons_succ])
        refine wpAnyH_ready (rs := [10]) (by kernel_rfl) (by simp) ?_
        refine AllReadyH.cons rfl (fun K2 hK => ?_) (AllReadyH.nil)
        refine step_store_rowC rfl 50 (.tmp 11) (.tmp 27) rfl g8 V1 rfl rfl _ (arrE fun _ => 0) r8_4 HI1.out.1 ((size_arrE _).trans HI1.out.2.1.symm) HI1.out.2.2 ?_
        obtain ⟨v5, ew, r8_5, B5, CC⟩ := HSTO.out _ g8 F1 _ V1 HV1.out B4 l8 r8_4
        rw [← ew]
        have r9_5 := CC _ _ (by omega) r9_4
        have b5 := B5.size
        clear ew CC
        refine hK.out _ _ (HS.out _ B5) (fun hHeld => ?_)
        clear hK K2
        (try simp only [Act.put, List.setIfInBounds_toArray, List.set_cons_zero, List.set_cons_succ])
        refine wpAnyH_ready (rs := [11]) (by kernel_rfl) (by simp) ?_
        refine AllReadyH.cons rfl (fun K2 hK => ?_) (AllReadyH.nil)
        refine step_store_rowC rfl 50 (.tmp 12) (.tmp 31) rfl g9 V2 rfl rfl _ (arrE fun _ => 0) r9_5 HI2.out.1 ((size_arrE _).trans HI2.out.2.1.symm) HI2.out.2.2 ?_
        obtain ⟨v6, ew, r9_6, B6, CC⟩ := HSTO.out _ g9 F2 _ V2 HV2.out B5 l9 r9_5
        rw [← ew]
        have r8_6 := CC _ _ (by omega) r8_5
        have b6 := B6.size
        clear ew CC
        refine hK.out _ _ (HS.out _ B6) (fun hHeld => ?_)
        clear hK K2
        (try simp only [Act.put, List.setIfInBounds_toArray, List.set_cons_zero, List.set_cons_succ])
        refine wpAnyH_done (by kernel_rfl) ?_ _
        exact HT.out _ _ _ r8_6 r9_6 B6
      ·
        go_simp
        obtain ⟨v3, g8, ew, eg, r8_3, B3, l8, CC⟩ := HNEW.out _ B2
        rw [← ew, ← eg]
        have r9_3 := (CC _ _ r9_2).1
        have ne := (CC _ _ r9_2).2
        have b3 := B3.size
        clear ew eg CC
        refine hK.out _ _ (HS.out _ B3) (fun hHeld => ?_)
        clear hK K2
        (try simp only [Act.put, List.setIfInBounds_toArray, List.set_cons_zero, List.set_cons_succ])
        refine wpAnyH_ready (rs := [6]) (by kernel_rfl) (by simp) ?_
        refine AllReadyH.cons rfl (fun K2 hK => ?_) (AllReadyH.nil)
        go_simp
        go_at_call 28; refine (HL2.out _).mono ?_; rintro e v4 ⟨rfl, h4⟩
        have B4 : Below W0.heap.size W0 v4 := B3.trans (h4.mono b3)
        have r8_4 := r8_3.below h4 r8_3.lt
        have r9_4 := r9_3.below h4 r9_3.lt
        have b4 := B4.size
        clear h4
        refine hK.out _ _ (HS.out _ B4) (fun hHeld => ?_)
        clear hK K2
        (try simp only [Act.put, List.setIfInBounds_toArray, List.set_cons_zero, List.set_cons_succ])
        refine reg_on (i := 7) (d := 31) (v := ?rv10) rfl rfl (by kernel_rfl) (by kernel_rfl) (by kernel_rfl) (fun _ _ _ h => h) (by rfl) ?ry10 (by assumption) ?rr10
        case ry10 => (intro wz hSw; (try dsimp only at hSw); go_simp; try with_reducible rfl)
        (try simp only [Act.put, List.setIfInBounds_toArray, List.set_cons_zero, List.set_cons_succ])
        refine wpAnyH_ready (rs := [10]) (by kernel_rfl) (by simp) ?_
        refine AllReadyH.cons rfl (fun K2 hK => ?_) (AllReadyH.nil)
        refine step_store_rowC rfl 50 (.tmp 11) (.tmp 27) rfl g8 V1 rfl rfl _ (arrE fun _ => 0) r8_4 HI1.out.1 ((size_arrE _).trans HI1.out.2.1.symm) HI1.out.2.2 ?_
        obtain ⟨v5, ew, r8_5, B5, CC⟩ := HSTO.out _ g8 F1 _ V1 HV1.out B4 l8 r8_4
        rw [← ew]
        have r9_5 := CC _ _ (by omega) r9_4
        have b5 := B5.size
        clear ew CC
        refine hK.out _ _ (HS.out _ B5) (fun hHeld => ?_)
        clear hK K2
        (try simp only [Act.put, List.setIfInBounds_toArray, List.set_cons_zero, List.set_cons_succ])
        refine wpAnyH_ready (rs := [11]) (by kernel_rfl) (by simp) ?_
        refine AllReadyH.cons rfl (fun K2 hK => ?_) (AllReadyH.nil)
        refine step_store_rowC rfl 50 (.tmp 12) (.tmp 31) rfl g9 V2 rfl rfl _ (arrE fun _ => 0) r9_5 HI2.out.1 ((size_arrE _).trans HI2.out.2.1.symm) HI2.out.2.2 ?_
        obtain ⟨v6, ew, r9_6, B6, CC⟩ := HSTO.out _ g9 F2 _ V2 HV2.out B5 l9 r9_5
        rw [← ew]
        have r8_6 := CC _ _ (by omega) r8_5
        have b6 := B6.size
        clear ew CC
        refine hK.out _ _ (HS.out _ B6) (fun hHeld => ?_)
        clear hK K2
        (try simp only [Act.put, List.setIfInBounds_toArray, List.set_cons_zero, List.set_cons_succ])
        refine wpAnyH_done (by kernel_rfl) ?_ _
        exact HT.out _ _ _ r8_6 r9_6 B6
  ·
    go_simp
    obtain ⟨v1, g8, ew, eg, r8_1, B1, l8, CC⟩ := HNEW.out _ B0
    rw [← ew, ← eg]
    have b1 := B1.size
    clear ew eg CC
    refine hK.out _ _ (HS.out _ B1) (fun hHeld => ?_)
    clear hK K2
    (try simp only [Act.put, List.setIfInBounds_toArray, List.set_cons_zero, List.set_cons_succ])
    refine wpAnyH_ready (rs := [2, 9]) (by kernel_rfl) (by simp) ?_
    refine AllReadyH.cons rfl (fun K2 hK => ?_) (AllReadyH.cons rfl (fun K2 hK => ?_) (AllReadyH.nil))
    ·
      go_simp
      go_at_call 28; refine (HL1.out _).mono ?_; rintro e v2 ⟨rfl, h2⟩
      have B2 : Below W0.heap.size W0 v2 := B1.trans (h2.mono b1)
      have r8_2 := r8_1.below h2 r8_1.lt
      have b2 := B2.size
      clear h2
      refine hK.out _ _ (HS.out _ B2) (fun hHeld => ?_)
      clear hK K2
      (try simp only [Act.put, List.setIfInBounds_toArray, List.set_cons_zero, List.set_cons_succ])
      refine reg_on (i := 3) (d := 27) (v := ?rv11) rfl rfl (by kernel_rfl) (by kernel_rfl) (by kernel_rfl) (fun _ _ _ h => h) (by rfl) ?ry11 (by assumption) ?rr11
      case ry11 => (intro wz hSw; (try dsimp only at hSw); go_simp; try with_reducible rfl)
      (try simp only [Act.put, List.setIfInBounds_toArray, List.set_cons_zero, List.set_cons_succ])
      refine wpAnyH_ready (rs := [6, 9]) (by kernel_rfl) (by simp) ?_
      refine AllReadyH.cons rfl (fun K2 hK => ?_) (AllReadyH.cons rfl (fun K2 hK => ?_) (AllReadyH.nil))
      ·
        go_simp
        go_at_call 28; refine (HL2.out _).mono ?_; rintro e v3 ⟨rfl, h3⟩
        have B3 : Below W0.heap.size W0 v3 := B2.trans (h3.mono b2)
        have r8_3 := r8_2.below h3 r8_2.lt
        have b3 := B3.size
        clear h3
        refine hK.out _ _ (HS.out _ B3) (fun hHeld => ?_)
        clear hK K2
        (try simp only [Act.put, List.setIfInBounds_toArray, List.set_cons_zero, List.set_cons_succ])
        refine reg_on (i := 7) (d := 31) (v := ?rv12) rfl rfl (by kernel_rfl) (by kernel_rfl) (by kernel_rfl) (fun _ _ _ h => h) (by rfl) ?ry12 (by assumption) ?rr12
        case ry12 => (intro wz hSw; (try dsimp only at hSw); go_simp; try with_reducible rfl)
        (try simp only [Act.put, List.setIfInBounds_toArray, List.set_cons_zero, List.set_cons_succ])
        refine wpAnyH_ready (rs := [9]) (by kernel_rfl) (by simp) ?_
        refine AllReadyH.cons rfl (fun K2 hK => ?_) (AllReadyH.nil)
        go_simp
        obtain ⟨v4, g9, ew, eg, r9_4, B4, l9, CC⟩ := HNEW.out _ B3
        rw [← ew, ← eg]
        have r8_4 := (CC _ _ r8_3).1
        have ne := (CC _ _ r8_3).2
        have b4 := B4.size
        clear ew eg CC
        refine hK.out _ _ (HS.out _ B4) (fun hHeld => ?_)
        clear hK K2
        (try simp only [Act.put, List.setIfInBounds_toArray, List.set_cons_zero, List.set_cons_succ])
        refine wpAnyH_ready (rs := [10]) (by kernel_rfl) (by simp) ?_
        refine AllReadyH.cons rfl (fun K2 hK => ?_) (AllReadyH.nil)
        refine step_store_rowC rfl 50 (.tmp 11) (.tmp 27) rfl g8 V1 rfl rfl _ (arrE fun _ => 0) r8_4 HI1.out.1 ((size_arrE _).trans HI1.out.2.1.symm) HI1.out.2.2 ?_
        obtain ⟨v5, ew, r8_5, B5, CC⟩ := HSTO.out _ g8 F1 _ V1 HV1.out B4 l8 r8_4
        rw [← ew]
        have r9_5 := CC _ _ (by omega) r9_4
        have b5 := B5.size
        clear ew CC
        refine hK.out _ _ (HS.out _ B5) (fun hHeld => ?_)
        clear hK K2
        (try simp only [Act.put, List.setIfInBounds_toArray, List.set_cons_zero, List.set_cons_succ])
        refine wpAnyH_ready (rs := [11]) (by kernel_rfl) (by simp) ?_
        refine AllReadyH.cons rfl (fun K2 hK => ?_) (AllReadyH.nil)
        refine step_store_rowC rfl 50 (.tmp 12) (.tmp 31) rfl g9 V2 rfl rfl _ (arrE fun _ => 0) r9_5 HI2.out.1 ((size_arrE _).trans HI2.out.2.1.symm) HI2.out.2.2 ?_
        obtain ⟨v6, ew, r9_6, B6, CC⟩ := HSTO.out _ g9 F2 _ V2 HV2.out B5 l9 r9_5
        rw [← ew]
        have r8_6 := CC _ _ (by omega) r8_5
        have b6 := B6.size
        clear ew CC
        refine hK.out _ _ (HS.out _ B6) (fun hHeld => ?_)
        clear hK K2
        (try simp only [Act.put, List.setIfInBounds_toArray, List.set_cons_zero, List.set_cons_succ])
        refine wpAnyH_done (by kernel_rfl) ?_ _
        exact HT.out _ _ _ r8_6 r9_6 B6
      ·
        go_simp
        obtain ⟨v3, g9, ew, eg, r9_3, B3, l9, CC⟩ := HNEW.out _ B2
        rw [← ew, ← eg]
        have r8_3 := (CC _ _ r8_2).1
        have ne := (CC _ _ r8_2).2
        have b3 := B3.size
        clear ew eg CC
        refine hK.out _ _ (HS.out _ B3) (fun hHeld => ?_)
        clear hK K2
        (try simp only [Act.put, List.setIfInBounds_toArray, List.set_cons_zero, List.set_cons_succ])
        refine wpAnyH_ready (rs := [6]) (by kernel_rfl) (by simp) ?_
        refine AllReadyH.cons rfl (fun K2 hK => ?_) (AllReadyH.nil)
        go_simp
        go_at_call 28; refine (HL2.out _).mono ?_; rintro e v4 ⟨rfl, h4⟩
        have B4 : Below W0.heap.size W0 v4 := B3.trans (h4.mono b3)
        have r8_4 := r8_3.below h4 r8_3.lt
        have r9_4 := r9_3.below h4 r9_3.lt
        have b4 := B4.size
        clear h4
        refine hK.out _ _ (HS.out _ B4) (fun hHeld => ?_)
        clear hK K2
        (try simp only [Act.put, List.setIfInBounds_toArray, List.set_cons_zero, List.set_cons_succ])
        refine reg_on (i := 7) (d := 31) (v := ?rv13) rfl rfl (by kernel_rfl) (by kernel_rfl) (by kernel_rfl) (fun _ _ _ h => h) (by rfl) ?ry13 (by assumption) ?rr13
        case ry13 => (intro wz hSw; (try dsimp only at hSw); go_simp; try with_reducible rfl)
        (try simp only [Act.put, List.setIfInBounds_toArray, List.set_cons_zero, List.set_cons_succ])
        refine wpAnyH_ready (rs := [10]) (by kernel_rfl) (by simp) ?_
        refine AllReadyH.cons rfl (fun K2 hK => ?_) (AllReadyH.nil)
        refine step_store_rowC rfl 50 (.tmp 11) (.tmp 27) rfl g8 V1 rfl rfl _ (arrE fun _ => 0) r8_4 HI1.out.1 ((size_arrE _).trans HI1.out.2.1.symm) HI1.out.2.2 ?_
        obtain ⟨v5, ew, r8_5, B5, CC⟩ := HSTO.out _ g8 F1 _ V1 HV1.out B4 l8 r8_4
        rw [← ew]
        have r9_5 := CC _ _ (by omega) r9_4
        have b5 := B5.size
        clear ew CC
        refine hK.out _ _ (HS.out _ B5) (fun hHeld => ?_)
        clear hK K2
        (try simp only [Act.put, List.setIfInBounds_toArray, List.set_cons_zero, List.set_cons_succ])
        refine wpAnyH_ready (rs := [11]) (by kernel_rfl) (by simp) ?_
        refine AllReadyH.cons rfl (fun K2 hK => ?_) (AllReadyH.nil)
        refine step_store_rowC rfl 50 (.tmp 12) (.tmp 31) rfl g9 V2 rfl rfl _ (arrE fun _ => 0) r9_5 HI2.out.1 ((size_arrE _).trans HI2.out.2.1.symm) HI2.out.2.2 ?_
        obtain ⟨v6, ew, r9_6, B6, CC⟩ := HSTO.out _ g9 F2 _ V2 HV2.out B5 l9 r9_5
        rw [← ew]
        have r8_6 := CC _ _ (by omega) r8_5
        have b6 := B6.size
        clear ew CC
        refine hK.out _ _ (HS.out _ B6) (fun hHeld => ?_)
        clear hK K2
        (try simp only [Act.put, List.setIfInBounds_toArray, List.set_cons_zero, List.set_cons_succ])
        refine wpAnyH_done (by kernel_rfl) ?_ _
        exact HT.out _ _ _ r8_6 r9_6 B6
    ·
      go_simp
      obtain ⟨v2, g9, ew, eg, r9_2, B2, l9, CC⟩ := HNEW.out _ B1
      rw [← ew, ← eg]
      have r8_2 := (CC _ _ r8_1).1
      have ne := (CC _ _ r8_1).2
      have b2 := B2.size
      clear ew eg CC
      refine hK.out _ _ (HS.out _ B2) (fun hHeld => ?_)
      clear hK K2
      (try simp only [Act.put, List.setIfInBounds_toArray, List.set_cons_zero, List.set_cons_succ])
      refine wpAnyH_ready (rs := [2]) (by kernel_rfl) (by simp) ?_
      refine AllReadyH.cons rfl (fun K2 hK => ?_) (AllReadyH.nil)
      go_simp
      go_at_call 28; refine (HL1.out _).mono ?_; rintro e v3 ⟨rfl, h3⟩
      have B3 : Below W0.heap.size W0 v3 := B2.trans (h3.mono b2)
      have r8_3 := r8_2.below h3 r8_2.lt
      have r9_3 := r9_2.below h3 r9_2.lt
      have b3 := B3.size
      clear h3
      refine hK.out _ _ (HS.out _ B3) (fun hHeld => ?_)
      clear hK K2
      (try simp only [Act.put, List.setIfInBounds_toArray, List.set_cons_zero, List.set_cons_succ])
      refine reg_on (i := 3) (d := 27) (v := ?rv14) rfl rfl (by kernel_rfl) (by kernel_rfl) (by kernel_rfl) (fun _ _ _ h => h) (by rfl) ?ry14 (by assumption) ?rr14
      case ry14 => (intro wz hSw; (try dsimp only at hSw); go_simp; try with_reducible rfl)
      (try simp only [Act.put, List.setIfInBounds_toArray, List.set_cons_zero, List.set_cons_succ])
      refine wpAnyH_ready (rs := [6]) (by kernel_rfl) (by simp) ?_
      refine AllReadyH.cons rfl (fun K2 hK => ?_) (AllReadyH.nil)
      go_simp
      go_at_call 28; refine (HL2.out _).mono ?_; rintro e v4 ⟨rfl, h4⟩
      have B4 : Below W0.heap.size W0 v4 := B3.trans (h4.mono b3)
      have r8_4 := r8_3.below h4 r8_3.lt
      have r9_4 := r9_3.below h4 r9_3.lt
      have b4 := B4.size
      clear h4
      refine hK.out _ _ (HS.out _ B4) (fun hHeld => ?_)
      clear hK K2
      (try simp only [Act.put, List.setIfInBounds_toArray, List.set_cons_zero, List.set_cons_succ])
      refine reg_on (i := 7) (d := 31) (v := ?rv15) rfl rfl (by kernel_rfl) (by kernel_rfl) (by kernel_rfl) (fun _ _ _ h => h) (by rfl) ?ry15 (by assumption) ?rr15
      case ry15 => (intro wz hSw; (try dsimp only at hSw); go_simp; try with_reducible rfl)
      (try simp only [Act.put, List.setIfInBounds_toArray, List.set_cons_zero, List.set_cons_succ])
      refine wpAnyH_ready (rs := [10]) (by kernel_rfl) (by simp) ?_
      refine AllReadyH.cons rfl (fun K2 hK => ?_) (AllReadyH.nil)
      refine step_store_rowC rfl 50 (.tmp 11) (.tmp 27) rfl g8 V1 rfl rfl _ (arrE fun _ => 0) r8_4 HI1.out.1 ((size_arrE _).trans HI1.out.2.1.symm) HI1.out.2.2 ?_
      obtain ⟨v5, ew, r8_5, B5, CC⟩ := HSTO.out _ g8 F1 _ V1 HV1.out B4 l8 r8_4
      rw [← ew]
      have r9_5 := CC _ _ (by omega) r9_4
      have b5 := B5.size
      clear ew CC
      refine hK.out _ _ (HS.out _ B5) (fun hHeld => ?_)
      clear hK K2
      (try simp only [Act.put, List.setIfInBounds_toArray, List.set_cons_zero, List.set_cons_succ])
      refine wpAnyH_ready (rs := [11]) (by kernel_rfl) (by simp) ?_
      refine AllReadyH.cons rfl (fun K2 hK => ?_) (AllReadyH.nil)
      refine step_store_rowC rfl 50 (.tmp 12) (.tmp 31) rfl g9 V2 rfl rfl _ (arrE fun _ => 0) r9_5 HI2.out.1 ((size_arrE _).trans HI2.out.2.1.symm) HI2.out.2.2 ?_
      obtain ⟨v6, ew, r9_6, B6, CC⟩ := HSTO.out _ g9 F2 _ V2 HV2.out B5 l9 r9_5
      rw [← ew]
      have r8_6 := CC _ _ (by omega) r8_5
      have b6 := B6.size
      clear ew CC
      refine hK.out _ _ (HS.out _ B6) (fun hHeld => ?_)
      clear hK K2
      (try simp only [Act.put, List.setIfInBounds_toArray, List.set_cons_zero, List.set_cons_succ])
      refine wpAnyH_done (by kernel_rfl) ?_ _
      exact HT.out _ _ _ r8_6 r9_6 B6
  ·
    go_simp
    obtain ⟨v1, g9, ew, eg, r9_1, B1, l9, CC⟩ := HNEW.out _ B0
    rw [← ew, ← eg]
    have b1 := B1.size
    clear ew eg CC
    refine hK.out _ _ (HS.out _ B1) (fun hHeld => ?_)
    clear hK K2
    (try simp only [Act.put, List.setIfInBounds_toArray, List.set_cons_zero, List.set_cons_succ])
    refine wpAnyH_ready (rs := [2, 8]) (by kernel_rfl) (by simp) ?_
    refine AllReadyH.cons rfl (fun K2 hK => ?_) (AllReadyH.cons rfl (fun K2 hK => ?_) (AllReadyH.nil))
    ·
      go_simp
      go_at_call 28; refine (HL1.out _).mono ?_; rintro e v2 ⟨rfl, h2⟩
      have B2 : Below W0.heap.size W0 v2 := B1.trans (h2.mono b1)
      have r9_2 := r9_1.below h2 r9_1.lt
      have b2 := B2.size
      clear h2
      refine hK.out _ _ (HS.out _ B2) (fun hHeld => ?_)
      clear hK K2
      (try simp only [Act.put, List.setIfInBounds_toArray, List.set_cons_zero, List.set_cons_succ])
      refine reg_on (i := 3) (d := 27) (v := ?rv16) rfl rfl (by kernel_rfl) (by kernel_rfl) (by kernel_rfl) (fun _ _ _ h => h) (by rfl) ?ry16 (by assumption) ?rr16
      case ry16 => (intro wz hSw; (try dsimp only at hSw); go_simp; try with_reducible rfl)
      (try simp only [Act.put, List.setIfInBounds_toArray, List.set_cons_zero, List.set_cons_succ])
      refine wpAnyH_ready (rs := [6, 8]) (by kernel_rfl) (by simp) ?_
      refine AllReadyH.cons rfl (fun K2 hK => ?_) (AllReadyH.cons rfl (fun K2 hK => ?_) (AllReadyH.nil))
      ·
        go_simp
        go_at_call 28; refine (HL2.out _).mono ?_; rintro e v3 ⟨rfl, h3⟩
        have B3 : Below W0.heap.size W0 v3 := B2.trans (h3.mono b2)
        have r9_3 := r9_2.below h3 r9_2.lt
        have b3 := B3.size
        clear h3
        refine hK.out _ _ (HS.out _ B3) (fun hHeld => ?_)
        clear hK K2
        (try simp only [Act.put, List.setIfInBounds_toArray, List.set_cons_zero, List.set_cons_succ])
        refine reg_on (i := 7) (d := 31) (v := ?rv17) rfl rfl (by kernel_rfl) (by kernel_rfl) (by kernel_rfl) (fun _ _ _ h => h) (by rfl) ?ry17 (by assumption) ?rr17
        case ry17 => (intro wz hSw; (try dsimp only at hSw); go_simp; try with_reducible rfl)
        (try simp only [Act.put, List.setIfInBounds_toArray, List.set_cons_zero, List.set_cons_succ])
        refine wpAnyH_ready (rs := [8]) (by kernel_rfl) (by simp) ?_
        refine AllReadyH.cons rfl (fun K2 hK => ?_) (AllReadyH.nil)
        go_simp
        obtain ⟨v4, g8, ew, eg, r8_4, B4, l8, CC⟩ := HNEW.out _ B3
        rw [← ew, ← eg]
        have r9_4 := (CC _ _ r9_3).1
        have ne := (CC _ _ r9_3).2
        have b4 := B4.size
        clear ew eg CC
        refine hK.out _ _ (HS.out _ B4) (fun hHeld => ?_)
        clear hK K2
        (try simp only [Act.put, List.setIfInBounds_toArray, List.set_cons_zero, List.set_cons_succ])
        refine wpAnyH_ready (rs := [10]) (by kernel_rfl) (by simp) ?_
        refine AllReadyH.cons rfl (fun K2 hK => ?_) (AllReadyH.nil)
        refine step_store_rowC rfl 50 (.tmp 11) (.tmp 27) rfl g8 V1 rfl rfl _ (arrE fun _ => 0) r8_4 HI1.out.1 ((size_arrE _).trans HI1.out.2.1.symm) HI1.out.2.2 ?_
        obtain ⟨v5, ew, r8_5, B5, CC⟩ := HSTO.out _ g8 F1 _ V1 HV1.out B4 l8 r8_4
        rw [← ew]
        have r9_5 := CC _ _ (by omega) r9_4
        have b5 := B5.size
        clear ew CC
        refine hK.out _ _ (HS.out _ B5) (fun hHeld => ?_)
        clear hK K2
        (try simp only [Act.put, List.setIfInBounds_toArray, List.set_cons_zero, List.set_cons_succ])
        refine wpAnyH_ready (rs := [11]) (by kernel_rfl) (by simp) ?_
        refine AllReadyH.cons rfl (fun K2 hK => ?_) (AllReadyH.nil)
        refine step_store_rowC rfl 50 (.tmp 12) (.tmp 31) rfl g9 V2 rfl rfl _ (arrE fun _ => 0) r9_5 HI2.out.1 ((size_arrE _).trans HI2.out.2.1.symm) HI2.out.2.2 ?_
        obtain ⟨v6, ew, r9_6, B6, CC⟩ := HSTO.out _ g9 F2 _ V2 HV2.out B5 l9 r9_5
        rw [← ew]
        have r8_6 := CC _ _ (by omega) r8_5
        have b6 := B6.size
        clear ew CC
        refine hK.out _ _ (HS.out _ B6) (fun hHeld => ?_)
        clear hK K2
        (try simp only [Act.put, List.setIfInBounds_toArray, List.set_cons_zero, List.set_cons_succ])
        refine wpAnyH_done (by kernel_rfl) ?_ _
        exact HT.out _ _ _ r8_6 r9_6 B6
      ·
        go_simp
        obtain ⟨v3, g8, ew, eg, r8_3, B3, l8, CC⟩ := HNEW.out _ B2
        rw [← ew, ← eg]
        have r9_3 := (CC _ _ r9_2).1
        have ne := (CC _ _ r9_2).2
        have b3 := B3.size
        clear ew eg CC
        refine hK.out _ _ (HS.out _ B3) (fun hHeld => ?_)
        clear hK K2
        (try simp only [Act.put, List.setIfInBounds_toArray, List.set_cons_zero, List.set_cons_succ])
        refine wpAnyH_ready (rs := [6]) (by kernel_rfl) (by simp) ?_
        refine AllReadyH.cons rfl (fun K2 hK => ?_) (AllReadyH.nil)
        go_simp
        go_at_call 28; refine (HL2.out _).mono ?_; rintro e v4 ⟨rfl, h4⟩
        have B4 : Below W0.heap.size W0 v4 := B3.trans (h4.mono b3)
        have r8_4 := r8_3.below h4 r8_3.lt
        have r9_4 := r9_3.below h4 r9_3.lt
        have b4 := B4.size
        clear h4
        refine hK.out _ _ (HS.out _ B4) (fun hHeld => ?_)
        clear hK K2
        (try simp only [Act.put, List.setIfInBounds_toArray, List.set_cons_zero, List.set_cons_succ])
        refine reg_on (i := 7) (d := 31) (v := ?rv18) rfl rfl (by kernel_rfl) (by kernel_rfl) (by kernel_rfl) (fun _ _ _ h => h) (by rfl) ?ry18 (by assumption) ?rr18
        case ry18 => (intro wz hSw; (try dsimp only at hSw); go_simp; try with_reducible rfl)
        (try simp only [Act.put, List.setIfInBounds_toArray, List.set_cons_zero, List.set_cons_succ])
        refine wpAnyH_ready (rs := [10]) (by kernel_rfl) (by simp) ?_
        refine AllReadyH.cons rfl (fun K2 hK => ?_) (AllReadyH.nil)
        refine step_store_rowC rfl 50 (.tmp 11) (.tmp 27) rfl g8 V1 rfl rfl _ (arrE fun _ => 0) r8_4 HI1.out.1 ((size_arrE _).trans HI1.out.2.1.symm) HI1.out.2.2 ?_
        obtain ⟨v5, ew, r8_5, B5, CC⟩ := HSTO.out _ g8 F1 _ V1 HV1.out B4 l8 r8_4
        rw [← ew]
        have r9_5 := CC _ _ (by omega) r9_4
        have b5 := B5.size
        clear ew CC
        refine hK.out _ _ (HS.out _ B5) (fun hHeld => ?_)
        clear hK K2
        (try simp only [Act.put, List.setIfInBounds_toArray, List.set_cons_zero, List.set_cons_succ])
        refine wpAnyH_ready (rs := [11]) (by kernel_rfl) (by simp) ?_
        refine AllReadyH.cons rfl (fun K2 hK => ?_) (AllReadyH.nil)
        refine step_store_rowC rfl 50 (.tmp 12) (.tmp 31) rfl g9 V2 rfl rfl _ (arrE fun _ => 0) r9_5 HI2.out.1 ((size_arrE _).trans HI2.out.2.1.symm) HI2.out.2.2 ?_
        obtain ⟨v6, ew, r9_6, B6, CC⟩ := HSTO.out _ g9 F2 _ V2 HV2.out B5 l9 r9_5
        rw [← ew]
        have r8_6 := CC _ _ (by omega) r8_5
        have b6 := B6.size
        clear ew CC
        refine hK.out _ _ (HS.out _ B6) (fun hHeld => ?_)
        clear hK K2
        (try simp only [Act.put, List.setIfInBounds_toArray, List.set_cons_zero, List.set_cons_succ])
        refine wpAnyH_done (by kernel_rfl) ?_ _
        exact HT.out _ _ _ r8_6 r9_6 B6
    ·
      go_simp
      obtain ⟨v2, g8, ew, eg, r8_2, B2, l8, CC⟩ := HNEW.out _ B1
      rw [← ew, ← eg]
      have r9_2 := (CC _ _ r9_1).1
      have ne := (CC _ _ r9_1).2
      have b2 := B2.size
      clear ew eg CC
      refine hK.out _ _ (HS.out _ B2) (fun hHeld => ?_)
      clear hK K2
      (try simp only [Act.put, List.setIfInBounds_toArray, List.set_cons_zero, List.set_cons_succ])
      refine wpAnyH_ready (rs := [2]) (by kernel_rfl) (by simp) ?_
      refine AllReadyH.cons rfl (fun K2 hK => ?_) (AllReadyH.nil)
      go_simp
      go_at_call 28; refine (HL1.out _).mono ?_; rintro e v3 ⟨rfl, h3⟩
      have B3 : Below W0.heap.size W0 v3 := B2.trans (h3.mono b2)
      have r8_3 := r8_2.below h3 r8_2.lt
      have r9_3 := r9_2.below h3 r9_2.lt
      have b3 := B3.size
      clear h3
      refine hK.out _ _ (HS.out _ B3) (fun hHeld => ?_)
      clear hK K2
      (try simp only [Act.put, List.setIfInBounds_toArray, List.set_cons_zero, List.set_cons_succ])
      refine reg_on (i := 3) (d := 27) (v := ?rv19) rfl rfl (by kernel_rfl) (by kernel_rfl) (by kernel_rfl) (fun _ _ _ h => h) (by rfl) ?ry19 (by assumption) ?rr19
      case ry19 => (intro wz hSw; (try dsimp only at hSw); go_simp; try with_reducible rfl)
      (try simp only [Act.put, List.setIfInBounds_toArray, List.set_cons_zero, List.set_cons_succ])
      refine wpAnyH_ready (rs := [6]) (by kernel_rfl) (by simp) ?_
      refine AllReadyH.cons rfl (fun K2 hK => ?_) (AllReadyH.nil)
      go_simp
      go_at_call 28; refine (HL2.out _).mono ?_; rintro e v4 ⟨rfl, h4⟩
      have B4 : Below W0.heap.size W0 v4 := B3.trans (h4.mono b3)
      have r8_4 := r8_3.below h4 r8_3.lt
      have r9_4 := r9_3.below h4 r9_3.lt
      have b4 := B4.size
      clear h4
      refine hK.out _ _ (HS.out _ B4) (fun hHeld => ?_)
      clear hK K2
      (try simp only [Act.put, List.setIfInBounds_toArray, List.set_cons_zero, List.set_cons_succ])
      refine reg_on (i := 7) (d := 31) (v := ?rv20) rfl rfl (by kernel_rfl) (by kernel_rfl) (by kernel_rfl) (fun _ _ _ h => h) (by rfl) ?ry20 (by assumption) ?rr20
      case ry20 => (intro wz hSw; (try dsimp only at hSw); go_simp; try with_reducible rfl)
      (try simp only [Act.put, List.setIfInBounds_toArray, List.set_cons_zero, List.set_cons_succ])
      refine wpAnyH_ready (rs := [10]) (by kernel_rfl) (by simp) ?_
      refine AllReadyH.cons rfl (fun K2 hK => ?_) (AllReadyH.nil)
      refine step_store_rowC rfl 50 (.tmp 11) (.tmp 27) rfl g8 V1 rfl rfl _ (arrE fun _ => 0) r8_4 HI1.out.1 ((size_arrE _).trans HI1.out.2.1.symm) HI1.out.2.2 ?_
      obtain ⟨v5, ew, r8_5, B5, CC⟩ := HSTO.out _ g8 F1 _ V1 HV1.out B4 l8 r8_4
      rw [← ew]
      have r9_5 := CC _ _ (by omega) r9_4
      have b5 := B5.size
      clear ew CC
      refine hK.out _ _ (HS.out _ B5) (fun hHeld => ?_)
      clear hK K2
      (try simp only [Act.put, List.setIfInBounds_toArray, List.set_cons_zero, List.set_cons_succ])
      refine wpAnyH_ready (rs := [11]) (by kernel_rfl) (by simp) ?_
      refine AllReadyH.cons rfl (fun K2 hK => ?_) (AllReadyH.nil)
      refine step_store_rowC rfl 50 (.tmp 12) (.tmp 31) rfl g9 V2 rfl rfl _ (arrE fun _ => 0) r9_5 HI2.out.1 ((size_arrE _).trans HI2.out.2.1.symm) HI2.out.2.2 ?_
      obtain ⟨v6, ew, r9_6, B6, CC⟩ := HSTO.out _ g9 F2 _ V2 HV2.out B5 l9 r9_5
      rw [← ew]
      have r8_6 := CC _ _ (by omega) r8_5
      have b6 := B6.size
      clear ew CC
      refine hK.out _ _ (HS.out _ B6) (fun hHeld => ?_)
      clear hK K2
      (try simp only [Act.put, List.setIfInBounds_toArray, List.set_cons_zero, List.set_cons_succ])
      refine wpAnyH_done (by kernel_rfl) ?_ _
      exact HT.out _ _ _ r8_6 r9_6 B6
end Go.Proofs.Ytobncknlipeinaa
