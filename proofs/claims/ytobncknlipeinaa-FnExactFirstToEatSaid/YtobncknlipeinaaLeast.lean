/-
  Contract: the least costs of one bar by those of its parts.
-/
import Derived.Test.YtobncknlipeinaaBehA
namespace Go.Proofs.Ytobncknlipeinaa
open Go.RowKit Go.Maps
set_option linter.unusedVariables false
set_option linter.unusedSimpArgs false

theorem IsMin.join {S T : Int → Prop} {u v : Int} (h1 : IsMin (fun x => S x ∨ x = 20736) u) (h2 : IsMin (fun x => T x ∨ x = 20736) v) : IsMin (fun x => (S x ∨ T x) ∨ x = 20736) (Min.min u v) := by
  have a1 := h1.le (.inr rfl)
  have a2 := h2.le (.inr rfl)
  rcases h1 with ⟨e, _⟩ | ⟨p1, p2, p3⟩
  · omega
  rcases h2 with ⟨e, _⟩ | ⟨q1, q2, q3⟩
  · omega
  refine .inr ⟨by omega, ?_, fun x hx => ?_⟩
  · rcases (show Min.min u v = u ∨ Min.min u v = v by omega) with e | e
    · rw [e]; rcases p2 with h | h
      · exact .inl (.inl h)
      · exact .inr h
    · rw [e]; rcases q2 with h | h
      · exact .inl (.inr h)
      · exact .inr h
  · rcases hx with (h | h) | h
    · have := p3 x (.inl h); omega
    · have := q3 x (.inl h); omega
    · omega
/-- a break's costs, down or across -/
def DirE (M : E3) (a b : Nat) (d : Bool) (t s : Nat) (x : Int) : Prop := if d then CandD (lyN M) a b s t x else CandA (lyN M) a b s t x
/-- the breaks of one way at less than t -/
def UpE (M : E3) (a b : Nat) (d : Bool) (t s : Nat) (x : Int) : Prop := ∃ u, 1 ≤ u ∧ u < t ∧ DirE M a b d u s x
/-- the costs behind one way, behind both -/
def WayE (M : E3) (a b k s : Nat) (x : Int) : Prop := (1 ≤ k ∧ UpE M a b true (a / 2 + 1) s x) ∨ (2 ≤ k ∧ UpE M a b false (b / 2 + 1) s x)
/-- what stands in the array: nothing and all cost nothing; else the least of S -/
def LeastE (all : Nat) (S : Nat → Int → Prop) (f : Nat → Int) : Prop := f 0 = 0 ∧ f all = 0 ∧ (∀ s, 0 < s → s < all → IsMin (fun x => S s x ∨ x = 20736) (f s)) ∧ ∀ s, s < 145 → 0 ≤ f s ∧ f s ≤ 20736
theorem LeastE.congr {all : Nat} {S T : Nat → Int → Prop} {f : Nat → Int} (h : LeastE all S f) (e : ∀ s x, 0 < s → s < all → (S s x ↔ T s x)) : LeastE all T f :=
  ⟨h.1, h.2.1, fun s h1 h2 => (h.2.2.1 s h1 h2).congr fun x => by rw [e s x h1 h2], h.2.2.2⟩
theorem LeastE.step {all q : Nat} {S T : Nat → Int → Prop} {f g : Nat → Int} (hq : 1 ≤ q) (hqa : q < all) (ha : all ≤ 144) (h : LeastE all (fun s x => S s x ∨ (s < q ∧ T s x)) f) (hg : IsMin (fun x => T q x ∨ x = 20736) (g q)) :
    LeastE all (fun s x => S s x ∨ (s < q + 1 ∧ T s x)) (fun j => if j = q then Min.min (f q) (g q) else f j) := by
  have b := hg.le (.inr rfl)
  refine ⟨by simp only []; rw [if_neg (by omega)]; exact h.1, by simp only []; rw [if_neg (by omega)]; exact h.2.1, fun s h1 h2 => ?_, fun s h1 => ?_⟩
  · by_cases e : s = q
    · subst e
      simp only [if_pos]
      refine ((h.2.2.1 s h1 h2).join hg).congr fun x => ?_
      constructor
      · rintro (((h | h) | h) | h)
        all_goals first | exact .inr h | exact .inl (.inl h) | exact .inl (.inr ⟨by omega, h⟩) | (exact absurd h.1 (by omega))
      · rintro ((h | h) | h)
        · exact .inl (.inl (.inl h))
        · exact .inl (.inr h.2)
        · exact .inr h
    · simp only [if_neg e]
      refine (h.2.2.1 s h1 h2).congr fun x => ?_
      constructor
      · rintro ((h | h) | h)
        · exact .inl (.inl h)
        · exact .inl (.inr ⟨by omega, h.2⟩)
        · exact .inr h
      · rintro ((h | h) | h)
        · exact .inl (.inl h)
        · exact .inl (.inr ⟨by omega, h.2⟩)
        · exact .inr h
  · simp only []
    by_cases e : s = q
    · rw [if_pos e]; have := h.2.2.2 q (by omega); omega
    · rw [if_neg e]; exact h.2.2.2 s h1
theorem behS_cand {M : E3} {a b t s : Nat} {x : Int} : BehS (M (max t b) (min t b)) (M (max (a - t) b) (min (a - t) b)) (t * b) ((a - t) * b) b s x ↔ DirE M a b true t s x := by
  unfold DirE
  rw [if_pos rfl]
  constructor
  · rintro ⟨i, j, h1, h2, h3, e⟩
    exact ⟨i, h1, by omega, by rw [show s - i = j by omega]; exact h2, by rw [show s - i = j by omega]; exact e⟩
  · rintro ⟨k, k1, k2, k3, e⟩
    exact ⟨k, s - k, k1, k3, by omega, e⟩
theorem behS_candA {M : E3} {a b t s : Nat} {x : Int} : BehS (M (max a t) (min a t)) (M (max a (b - t)) (min a (b - t))) (a * t) (a * (b - t)) a s x ↔ DirE M a b false t s x := by
  unfold DirE
  rw [if_neg (by decide)]
  constructor
  · rintro ⟨i, j, h1, h2, h3, e⟩
    exact ⟨i, h1, by omega, by rw [show s - i = j by omega]; exact h2, by rw [show s - i = j by omega]; exact e⟩
  · rintro ⟨k, k1, k2, k3, e⟩
    exact ⟨k, s - k, k1, k3, by omega, e⟩
theorem upE_one {M : E3} {a b s : Nat} {d : Bool} {x : Int} : ¬ UpE M a b d 1 s x := by rintro ⟨u, h1, h2, _⟩; omega
theorem upE_succ {M : E3} {a b t s : Nat} {d : Bool} {x : Int} (ht : 1 ≤ t) : UpE M a b d (t + 1) s x ↔ UpE M a b d t s x ∨ DirE M a b d t s x := by
  constructor
  · rintro ⟨u, h1, h2, h⟩
    by_cases e : u = t
    · subst e; exact .inr h
    · exact .inl ⟨u, h1, by omega, h⟩
  · rintro (⟨u, h1, h2, h⟩ | h)
    · exact ⟨u, h1, by omega, h⟩
    · exact ⟨t, ht, by omega, h⟩
theorem wayE_zero {M : E3} {a b s : Nat} {x : Int} : ¬ WayE M a b 0 s x := by rintro (⟨h, _⟩ | ⟨h, _⟩) <;> omega
theorem wayE_one {M : E3} {a b s : Nat} {x : Int} : WayE M a b 1 s x ↔ WayE M a b 0 s x ∨ UpE M a b true (a / 2 + 1) s x := by
  constructor
  · rintro (⟨h, h2⟩ | ⟨h, _⟩)
    · exact .inr h2
    · omega
  · rintro (h | h)
    · exact absurd h wayE_zero
    · exact .inl ⟨by omega, h⟩
theorem wayE_two {M : E3} {a b s : Nat} {x : Int} : WayE M a b 2 s x ↔ WayE M a b 1 s x ∨ UpE M a b false (b / 2 + 1) s x := by
  constructor
  · rintro (⟨h, h2⟩ | ⟨h, h2⟩)
    · exact .inl (.inl ⟨by omega, h2⟩)
    · exact .inr h2
  · rintro ((⟨h, h2⟩ | ⟨h, _⟩) | h)
    · exact .inl ⟨by omega, h2⟩
    · omega
    · exact .inr ⟨by omega, h⟩
theorem wayE_cand {M : E3} {a b s : Nat} {x : Int} : WayE M a b 2 s x ↔ CandH (lyN M) a b s x := by
  constructor
  · rintro (⟨_, u, h1, h2, h⟩ | ⟨_, u, h1, h2, h⟩)
    · exact .inl ⟨u, h1, by omega, by unfold DirE at h; rwa [if_pos rfl] at h⟩
    · exact .inr ⟨u, h1, by omega, by unfold DirE at h; rwa [if_neg (by decide)] at h⟩
  · rintro (⟨u, h1, h2, h⟩ | ⟨u, h1, h2, h⟩)
    · exact .inl ⟨by omega, u, h1, by omega, by unfold DirE; rw [if_pos rfl]; exact h⟩
    · exact .inr ⟨by omega, u, h1, by omega, by unfold DirE; rw [if_neg (by decide)]; exact h⟩

set_option maxRecDepth 100000 in
set_option maxHeartbeats 4000000 in
theorem leastCosts_any (a b mb n : Nat) (M : C3) (w : World) (ha1 : 1 ≤ a) (ha2 : a ≤ 12) (hb1 : 1 ≤ b) (hb2 : b ≤ 12) (hM : MapE w mb n M) (hMB : ∀ x y k, 0 ≤ M x y k ∧ M x y k ≤ 20736) :
    Calls Try.prog 43 #[bar2 a b, .map (some mb)] w fun e w' => ∃ f : Nat → Int, e = .returned (.agg (arrE f)) ∧ LeastE (a * b) (fun s x => CandH (lyN M) a b s x) f ∧ Below w.heap.size w w' := by
  have hbar : barB (a : Int) (b : Int) = true := by simp [barB]; omega
  have hall : a * b ≤ 144 := Nat.le_trans (Nat.mul_le_mul ha2 hb2) (by omega)
  have hall1 : 1 ≤ a * b := Nat.mul_pos ha1 hb1
  obtain ⟨N, hN⟩ : ∃ N, N = a * b := ⟨_, rfl⟩
  rw [← hN] at hall hall1 ⊢
  have hNw : IntKind.i64.wrap ((a : Int) * (b : Int)) = (N : Int) := by rw [← Int.natCast_mul, hN]; exact IntWalk.i64_in _ (by omega)
  obtain ⟨VH, hVH⟩ : ∃ VH, VH = arrE (fun _ => 20736) := ⟨_, rfl⟩
  have HHI : Hid (∀ wx, Calls Try.prog 48 #[] wx fun e w' => e = .returned (.agg VH) ∧ Below wx.heap.size wx w') := fun wx => by rw [hVH]; exact highCosts_any wx
  have HIH : Hid ((Try.prog.info? 50).map (·.size) = some VH.size ∧ VH.size = 145 ∧ VH.all (·.oneCell') = true) := by
    have e : VH.size = 145 := by rw [hVH]; exact size_arrE _
    refine ⟨?_, e, ?_⟩
    · rw [e]; kernel_rfl
    · rw [hVH]; exact oneCell_arrE _
  have HVH := Lib.hid hVH
  have HLN : Hid (∀ wx (d : Bool), Calls Try.prog 31 #[bar2 a b, .bool d] wx fun e w' => e = .returned (.int .i64 (if d then (a : Int) - 1 else (b : Int) - 1)) ∧ Below wx.heap.size wx w') := fun wx d => linesOf_any a b d wx hbar
  have HDN : Hid (∀ wx (t : Nat), MapE wx mb n M → 1 ≤ t → t < a → Calls Try.prog 32 #[bar2 a b, .bool true, .int .i64 t, .map (some mb)] wx fun e w' => ∃ f : Nat → Int, e = .returned (.agg (arrE f)) ∧ (∀ k, k < 145 → IsMin (fun v => DirE M a b true t k v ∨ v = 20736) (f k)) ∧ Below wx.heap.size wx w') := fun wx t hm t1 t2 => by
    have hq : t * b + (a - t) * b ≤ 144 := by rw [← Nat.add_mul, show t + (a - t) = a by omega]; omega
    refine (costsBehind_any a b true t t b (a - t) b b mb n M wx hbar (by simp [canB, inB]; omega) rfl (by simp only [part2, if_pos]; congr 1; omega) rfl hb2 (by omega) hb2 (by omega) hb2 hq hm hMB).mono ?_
    rintro e w' ⟨f, h1, h2, h3⟩
    exact ⟨f, h1, fun k hk => (h2 k hk).congr fun v => by rw [behS_cand], h3⟩
  have HAC : Hid (∀ wx (t : Nat), MapE wx mb n M → 1 ≤ t → t < b → Calls Try.prog 32 #[bar2 a b, .bool false, .int .i64 t, .map (some mb)] wx fun e w' => ∃ f : Nat → Int, e = .returned (.agg (arrE f)) ∧ (∀ k, k < 145 → IsMin (fun v => DirE M a b false t k v ∨ v = 20736) (f k)) ∧ Below wx.heap.size wx w') := fun wx t hm t1 t2 => by
    have hq : a * t + a * (b - t) ≤ 144 := by rw [← Nat.mul_add, show t + (b - t) = b by omega]; omega
    refine (costsBehind_any a b false t a t a (b - t) a mb n M wx hbar (by simp [canB, inB]; omega) rfl (by simp only [part2]; rw [if_neg (by decide)]; congr 1; omega) rfl ha2 ha2 (by omega) ha2 (by omega) hq hm hMB).mono ?_
    rintro e w' ⟨f, h1, h2, h3⟩
    exact ⟨f, h1, fun k hk => (h2 k hk).congr fun v => by rw [behS_candA], h3⟩
  have HMM := Lib.hid hM
  have hmb := hM.lt
  have HN := Lib.hid hN
  have HBS : Hid (∀ (w1 wx : World) (B g : Nat), Below B w1 wx → B ≤ g → ∀ k v, Below B w1 (wx.setCell ⟨g, k, none⟩ v)) := fun w1 wx B g h hg k v => h.setCell (p := ⟨g, k, none⟩) hg v
  clear hM hMB hVH hN hbar
  have zc : zc_50 = arrE (fun _ => 0) := by rw [← zero_arrE]; kernel_rfl
  have HZC := Lib.hid zc
  clear zc
  have hzf := fun wx => zero_50 wx; have hze := zc_50_ne
  have hrs : RowE ((w.alloc (.cells #[.int .i64 a, .int .i64 b] 26)).alloc (.cells zc_50 50)) (w.heap.size + 1) (fun _ => 0) := by
    have h := RowE.new (w.alloc (.cells #[.int .i64 a, .int .i64 b] 26)) (fun _ => 0)
    rw [HZC.out]; simpa using h
  obtain ⟨w1, hw1⟩ : ∃ w1, w1 = (w.alloc (.cells #[.int .i64 a, .int .i64 b] 26)).alloc (.cells zc_50 50) := ⟨_, rfl⟩
  have s1 : w1.heap.size = w.heap.size + 2 := by rw [hw1]; simp
  have B1 : Below w.heap.size w w1 := by rw [hw1]; exact ((Below.refl _ _).alloc (Nat.le_refl _) _).alloc (by simp) _
  have c0 : w1.cell? ⟨w.heap.size, 0, none⟩ = some (.int .i64 a) := by rw [hw1]; (repeat (first | (with_reducible refine cell_drew ?_) | (with_reducible refine cell_drewN _ ?_) | ((with_reducible refine cell_alloc ?_ ?_); · first | omega | (simp; done) | (simp; omega) | assumption) | ((with_reducible refine cell_set ?_ ?_); · first | (intro e; injection e; omega) | (intro e; simp at e; done) | (intro e; simp at e; omega)))); first | done | (simp [go_sem]; done)
  have c1 : w1.cell? ⟨w.heap.size, 1, none⟩ = some (.int .i64 b) := by rw [hw1]; (repeat (first | (with_reducible refine cell_drew ?_) | (with_reducible refine cell_drewN _ ?_) | ((with_reducible refine cell_alloc ?_ ?_); · first | omega | (simp; done) | (simp; omega) | assumption) | ((with_reducible refine cell_set ?_ ?_); · first | (intro e; injection e; omega) | (intro e; simp at e; done) | (intro e; simp at e; omega)))); first | done | (simp [go_sem]; done)
  rw [← hw1] at hrs
  have HRS := Lib.hid hrs
  clear hrs
  have HC1 := Lib.hid (And.intro c0 c1)
  have HB1 := Lib.hid B1
  clear B1 c0 c1
  go_enter Try.func43, Try.ntmps43
  go_wp2_with fail
  rw [← hw1]
  refine (HHI.out _).mono ?_; rintro e w2 ⟨rfl, hb2⟩
  have s2 := hb2.size
  have HB2 := Lib.hid hb2
  have hnr : RowE (w2.alloc (.cells zc_50 50)) w2.heap.size (fun _ => 0) := by rw [HZC.out]; exact RowE.new w2 _
  obtain ⟨w3, ew3⟩ : ∃ w3, w3 = (w2.alloc (.cells zc_50 50)).setRow w2.heap.size VH := ⟨_, rfl⟩
  have h3 : RowE w3 w2.heap.size (fun _ => 20736) := by
    rw [ew3]
    have h := setRow_heap _ w2.heap.size _ VH _ _ hnr
    unfold RowE
    rw [← HVH.out]
    exact h
  have b3 : Below w2.heap.size w2 w3 := by
    rw [ew3]
    exact below_setRowE ((Below.refl _ _).alloc (Nat.le_refl _) _) (Nat.le_refl _) _
  have s3 : w3.heap.size = w2.heap.size + 1 := by rw [ew3]; simp [World.setRow]
  have q0 := h3.cell (k := 0) (by omega)
  have f0 := h3.free 0
  have h3b := h3.set 0 0
  have q1 := h3b.cell (k := N) (by omega)
  have f1 := h3b.free N
  rw [if_neg (by omega)] at q1
  rw [ew3] at q0 f0 q1 f1
  have n1 : (N : Int) < 145 := by omega
  have n2 : N < 145 := by omega
  have HNR := Lib.hid hnr
  have H3 := Lib.hid h3
  have HB3 := Lib.hid b3
  clear hnr h3 b3 h3b hb2
  go_wp2_with (refine wpList_store_row rfl 50 (.tmp 6) (.tmp 17) rfl w2.heap.size VH rfl rfl _ (arrE fun _ => 0) HNR.out HIH.out.1 ((size_arrE _).trans HIH.out.2.1.symm) HIH.out.2.2 ?_)
  rw [← ew3]
  obtain ⟨w4, ew4⟩ : ∃ w4, w4 = (w3.setCell ⟨w2.heap.size, 0, none⟩ (.int .i64 0)).setCell ⟨w2.heap.size, N, none⟩ (.int .i64 0) := ⟨_, rfl⟩
  rw [← ew4]
  have h4 : RowE w4 w2.heap.size (fun j => if j = N then 0 else if j = 0 then 0 else 20736) := by rw [ew4]; exact (H3.out.set 0 0).set N 0
  have b4 : Below w2.heap.size w2 w4 := by rw [ew4]; exact (HB3.out.setCell (p := ⟨w2.heap.size, 0, none⟩) (Nat.le_refl _) _).setCell (p := ⟨w2.heap.size, N, none⟩) (Nat.le_refl _) _
  have s4 : w4.heap.size = w2.heap.size + 1 := by rw [ew4]; simpa [World.setCell] using s3
  clear ew3 ew4 q0 f0 q1 f1 HNR H3 HB3 HIH HVH HHI s3
  obtain ⟨g, hg⟩ : ∃ g, g = w2.heap.size := ⟨_, rfl⟩
  rw [← hg] at h4 b4 s4 ⊢
  have hgw : w.heap.size + 1 < g := by omega
  have b14 : Below w1.heap.size w1 w4 := HB2.out.trans (b4.mono (by omega))
  have HB4 := Lib.hid (HB1.out.trans (b14.mono (by omega)))
  have hc0 := (b14.cell (p := ⟨w.heap.size, 0, none⟩) (by show w.heap.size < _; omega)).trans HC1.out.1
  have hc1 := (b14.cell (p := ⟨w.heap.size, 1, none⟩) (by show w.heap.size < _; omega)).trans HC1.out.2
  have HCL : Hid (∀ wx : World, Below g w4 wx → wx.cell? ⟨w.heap.size, 0, none⟩ = some (.int .i64 a) ∧ wx.cell? ⟨w.heap.size, 1, none⟩ = some (.int .i64 b)) := fun wx h =>
    ⟨(h.cell (p := ⟨w.heap.size, 0, none⟩) (by show w.heap.size < _; omega)).trans hc0, (h.cell (p := ⟨w.heap.size, 1, none⟩) (by show w.heap.size < _; omega)).trans hc1⟩
  have HR4 := Lib.hid (HRS.out.below b14 (by omega))
  have HM4 : Hid (∀ wx : World, Below g w4 wx → MapE wx mb n M) := fun wx h => (HMM.out.below HB4.out hmb).below h (by omega)
  have H4 := Lib.hid h4
  have hgs : g < w4.heap.size := by omega
  clear hg hc0 hc1 b14 h4 b4 HB1 HB2 HC1 HRS HMM s1 s2 s4 w1 hw1
  have hN0 : ¬ (0 = N) := by omega
  go_loopw [22] (fun i wr => ∃ (k : Nat) (f : Nat → Int), k ≤ 2 ∧ i = .int .i64 k ∧ RowE wr g f ∧ LeastE N (fun s x => WayE M a b k s x) f ∧ Below g w4 wr) (fun i _ => 2 - (intOf i).toNat)
  case atStart => exact ⟨0, _, by omega, rfl, H4.out, ⟨by simp, by simp, fun s h1 h2 => by
    simp only []
    rw [if_neg (by omega), if_neg (by omega)]
    exact (IsMin.one 20736 (by omega)).congr (fun v => ⟨.inr, fun h => by rcases h with h | h; exact absurd h wayE_zero; exact h⟩), fun s hs => by simp only []; split <;> (try split) <;> omega⟩, Below.refl _ _⟩
  case round =>
    obtain ⟨k, f, hk, rfl, hrow, hls, hB⟩ := hrel
    have sB := hB.size
    obtain ⟨d0, d1⟩ := HCL.out _ hB
    rcases (show k = 0 ∨ k = 1 ∨ k = 2 by omega) with rfl | rfl | rfl
    · have HROW := Lib.hid hrow
      have HLS := Lib.hid hls
      have HB := Lib.hid hB
      clear hrow hls hB
      have hix : (Instr.index 58 (.agg #[.bool true, .bool false]) (.int .i64 0)).run Try.prog wr = .ok (.bool true) wr := rfl
      rw [show ((0 : Nat) : Int) = 0 from rfl]
      go_wp2
      clear d0 d1 hix
      go_loopw [9] (fun v wi => ∃ (t : Nat) (h : Nat → Int), 1 ≤ t ∧ t ≤ a / 2 + 1 ∧ v = .int .i64 t ∧ RowE wi g h ∧ LeastE N (fun s x => WayE M a b 0 s x ∨ UpE M a b true t s x) h ∧ Below g w4 wi) (fun v _ => a / 2 + 1 - (intOf v).toNat)
      case atStart => exact ⟨1, f, by omega, by omega, rfl, HROW.out, HLS.out.congr (fun s x _ _ => ⟨.inl, fun h => by rcases h with h | h; exact h; exact absurd h upE_one⟩), HB.out⟩
      case round =>
        obtain ⟨t, h, ht1, ht2, rfl, hrow, hls, hB⟩ := hrel
        have sB2 := hB.size
        obtain ⟨d0, d1⟩ := HCL.out _ hB
        by_cases hlt : (t : Int) ≤ (a : Int) / 2
        · go_wp2_with fail
          refine (HLN.out _ _).mono ?_; rintro e w5 ⟨rfl, hb5⟩
          have s5 := hb5.size
          have B5 := hB.trans (hb5.mono (Nat.le_trans (Nat.le_of_lt hgs) sB2))
          obtain ⟨e0, e1⟩ := HCL.out _ B5
          have R5 := hrow.below hb5 hrow.lt
          clear d0 d1
          go_wp2_with fail
          refine (HDN.out _ t (HM4.out _ B5) ht1 (by omega)).mono ?_; rintro e w6 ⟨G, rfl, hG, hb6⟩
          have s6 := hb6.size
          have B6 := B5.trans (hb6.mono (by omega))
          have R6 := R5.below hb6 R5.lt
          clear hb5 hb6 e0 e1 hB hrow B5 R5 HROW HLS HB
          have hnr : RowE (w6.alloc (.cells zc_50 50)) w6.heap.size (fun _ => 0) := by rw [HZC.out]; exact RowE.new w6 _
          obtain ⟨w7, ew7⟩ : ∃ w7, w7 = (w6.alloc (.cells zc_50 50)).setRow w6.heap.size (arrE G) := ⟨_, rfl⟩
          have h7 : RowE w7 w6.heap.size G := by
            rw [ew7]
            exact setRow_heap _ w6.heap.size _ (arrE G) _ _ hnr
          have b7 : Below g w4 w7 := by
            rw [ew7]
            exact below_setRowE (B6.alloc (by omega) _) (by omega) _
          have r7 : RowE w7 g h := by
            rw [ew7]
            have q := R6.alloc (.cells zc_50 50)
            unfold RowE at q ⊢
            rw [setRow_other _ _ _ _ (by omega)]
            exact q
          have HNR := Lib.hid hnr
          have H7 := Lib.hid h7
          have HB7 := Lib.hid b7
          have HR7 := Lib.hid r7
          have HG := Lib.hid hG
          have HLS7 := Lib.hid hls
          clear hnr h7 b7 r7 hG hls R6 B6
          go_wp2_with (refine wpList_store_row rfl 50 (.tmp 10) (.tmp 38) rfl w6.heap.size (arrE G) rfl rfl _ (arrE fun _ => 0) HNR.out (by rw [size_arrE]; kernel_rfl) (by rw [size_arrE, size_arrE]) (oneCell_arrE _) ?_)
          rw [← ew7]
          clear ew7 HNR
          obtain ⟨g2, hg2⟩ : ∃ g2, g2 = w6.heap.size := ⟨_, rfl⟩
          have hne : g ≠ g2 := by omega
          rw [← hg2] at H7 ⊢
          clear hg2 s6
          go_loopw [11] (fun v wi => ∃ (q : Nat) (h : Nat → Int), 1 ≤ q ∧ q ≤ N ∧ v = .int .i64 q ∧ RowE wi g h ∧ RowE wi g2 G ∧ LeastE N (fun s x => (WayE M a b 0 s x ∨ UpE M a b true t s x) ∨ (s < q ∧ DirE M a b true t s x)) h ∧ Below g w4 wi) (fun v _ => N - (intOf v).toNat)
          case atStart => exact ⟨1, h, by omega, hall1, rfl, HR7.out, H7.out, HLS7.out.congr (fun s x h0 _ => ⟨.inl, fun z => by rcases z with z | z; exact z; exact absurd z.1 (by omega)⟩), HB7.out⟩
          case round =>
            clear HLS7 H7 HR7 HB7
            obtain ⟨q, h, hq1, hq2, rfl, hrow, hrg, hls, hB⟩ := hrel
            have sB3 := hB.size
            by_cases hlq : q < N
            · have hlqi : (q : Int) < (N : Int) := by omega
              have y1 : (q : Int) < 145 := by omega
              have y2 : q < 145 := by omega
              have q0 : wr.cell? ⟨g, q, none⟩ = some (.int .i64 (h q)) := hrow.cell (by omega)
              have q1 : wr.cell? ⟨g2, q, none⟩ = some (.int .i64 (G q)) := hrg.cell (by omega)
              have HMN := Lib.hid (hls.step hq1 hlq (by omega) (HG.out q (by omega)))
              have frz := hrow.free q
              have HST := Lib.hid (fun v => (hrow.drew.set q v))
              have HSG := Lib.hid (fun v => (hrg.drew.other (q := g) (k := q) (v := .int .i64 v) hne))
              have HBS := Lib.hid (fun v => hB.drew.setCell (p := ⟨g, q, none⟩) (Nat.le_refl _) v)
              clear hrow hrg hls hB
              generalize h q = c at *
              generalize G q = s2 at *
              rcases (show c < s2 ∨ c = s2 ∨ s2 < c by omega) with hc | hc | hc
              · have hmn : Min.min c s2 = c := by omega
                rw [hmn] at HMN
                have hc2 : ¬ s2 < c := by omega
                have hc3 : ¬ s2 ≤ c := by omega
                clear hmn
                go_wp2
                go_still_tail 9, (by kernel_rfl)
                repeat still_step
                change wpList _ _ _ _ _ wr.drew
                have c7d : wr.drew.cell? ⟨g, q, none⟩ = some (.int .i64 c) := q0
                have f7d : wr.drew.frozen? ⟨g, q, none⟩ = false := frz
                clear q0 frz q1
                go_wp2
                go_roundw
                case rel => exact ⟨q + 1, _, by omega, by omega, by go_num, HST.out _, HSG.out _, HMN.out, HBS.out _⟩
                case measure => simp [intOf]; omega
              · have hmn : Min.min c s2 = c := by omega
                rw [hmn] at HMN
                subst hc
                clear hmn
                go_wp2
                go_still_tail 9, (by kernel_rfl)
                repeat still_step
                change wpList _ _ _ _ _ wr.drew
                have c7d : wr.drew.cell? ⟨g, q, none⟩ = some (.int .i64 c) := q0
                have f7d : wr.drew.frozen? ⟨g, q, none⟩ = false := frz
                clear q0 frz q1
                go_wp2
                go_roundw
                case rel => exact ⟨q + 1, _, by omega, by omega, by go_num, HST.out _, HSG.out _, HMN.out, HBS.out _⟩
                case measure => simp [intOf]; omega
              · have hmn : Min.min c s2 = s2 := by omega
                rw [hmn] at HMN
                have hc2 : ¬ c < s2 := by omega
                have hc3 : ¬ c ≤ s2 := by omega
                clear hmn
                go_wp2
                go_still_tail 9, (by kernel_rfl)
                repeat still_step
                change wpList _ _ _ _ _ wr.drew
                have c7d : wr.drew.cell? ⟨g, q, none⟩ = some (.int .i64 c) := q0
                have f7d : wr.drew.frozen? ⟨g, q, none⟩ = false := frz
                clear q0 frz q1
                go_wp2
                go_roundw
                case rel => exact ⟨q + 1, _, by omega, by omega, by go_num, HST.out _, HSG.out _, HMN.out, HBS.out _⟩
                case measure => simp [intOf]; omega
            · obtain rfl : q = N := by omega
              have hnm : ¬ ((q : Nat) : Int) < (q : Int) := by omega
              have HRm := Lib.hid hrow
              have HLm := Lib.hid hls
              have HBm := Lib.hid hB
              clear hrow hrg hls hB
              go_wp2
              go_roundw
              case rel => exact ⟨t + 1, h, by omega, by omega, by go_num, HRm.out, HLm.out.congr (fun s x h0 h1 => by
                rw [upE_succ ht1, or_assoc]
                constructor
                · rintro (z | z | z)
                  · exact .inl z
                  · exact .inr (.inl z)
                  · exact .inr (.inr z.2)
                · rintro (z | z | z)
                  · exact .inl z
                  · exact .inr (.inl z)
                  · exact .inr (.inr ⟨h1, z⟩)), HBm.out⟩
              case measure => simp [intOf]; omega
        · have ht : t = a / 2 + 1 := by omega
          have HRm := Lib.hid hrow
          have HLm := Lib.hid hls
          clear hrow hls HROW HLS HB
          go_wp2_with fail
          refine (HLN.out _ _).mono ?_; rintro e w5 ⟨rfl, hb5⟩
          have HBm := Lib.hid (hB.trans (hb5.mono (Nat.le_trans (Nat.le_of_lt hgs) sB2)))
          have HRn := Lib.hid (HRm.out.below hb5 HRm.out.lt)
          clear hb5 hB d0 d1 HRm
          go_wp2
          go_roundw
          case rel => exact ⟨0 + 1, h, by omega, by go_num, HRn.out, HLm.out.congr (fun s x _ _ => by rw [ht, wayE_one]), HBm.out⟩
          case measure => simp [intOf]
    · have HROW := Lib.hid hrow
      have HLS := Lib.hid hls
      have HB := Lib.hid hB
      clear hrow hls hB
      have hix : (Instr.index 58 (.agg #[.bool true, .bool false]) (.int .i64 1)).run Try.prog wr = .ok (.bool false) wr := rfl
      rw [show ((1 : Nat) : Int) = 1 from rfl]
      go_wp2
      clear d0 d1 hix
      go_loopw [9] (fun v wi => ∃ (t : Nat) (h : Nat → Int), 1 ≤ t ∧ t ≤ b / 2 + 1 ∧ v = .int .i64 t ∧ RowE wi g h ∧ LeastE N (fun s x => WayE M a b 1 s x ∨ UpE M a b false t s x) h ∧ Below g w4 wi) (fun v _ => b / 2 + 1 - (intOf v).toNat)
      case atStart => exact ⟨1, f, by omega, by omega, rfl, HROW.out, HLS.out.congr (fun s x _ _ => ⟨.inl, fun h => by rcases h with h | h; exact h; exact absurd h upE_one⟩), HB.out⟩
      case round =>
        obtain ⟨t, h, ht1, ht2, rfl, hrow, hls, hB⟩ := hrel
        have sB2 := hB.size
        obtain ⟨d0, d1⟩ := HCL.out _ hB
        by_cases hlt : (t : Int) ≤ (b : Int) / 2
        · go_wp2_with fail
          refine (HLN.out _ _).mono ?_; rintro e w5 ⟨rfl, hb5⟩
          have s5 := hb5.size
          have B5 := hB.trans (hb5.mono (Nat.le_trans (Nat.le_of_lt hgs) sB2))
          obtain ⟨e0, e1⟩ := HCL.out _ B5
          have R5 := hrow.below hb5 hrow.lt
          clear d0 d1
          go_wp2_with fail
          refine (HAC.out _ t (HM4.out _ B5) ht1 (by omega)).mono ?_; rintro e w6 ⟨G, rfl, hG, hb6⟩
          have s6 := hb6.size
          have B6 := B5.trans (hb6.mono (by omega))
          have R6 := R5.below hb6 R5.lt
          clear hb5 hb6 e0 e1 hB hrow B5 R5 HROW HLS HB
          have hnr : RowE (w6.alloc (.cells zc_50 50)) w6.heap.size (fun _ => 0) := by rw [HZC.out]; exact RowE.new w6 _
          obtain ⟨w7, ew7⟩ : ∃ w7, w7 = (w6.alloc (.cells zc_50 50)).setRow w6.heap.size (arrE G) := ⟨_, rfl⟩
          have h7 : RowE w7 w6.heap.size G := by
            rw [ew7]
            exact setRow_heap _ w6.heap.size _ (arrE G) _ _ hnr
          have b7 : Below g w4 w7 := by
            rw [ew7]
            exact below_setRowE (B6.alloc (by omega) _) (by omega) _
          have r7 : RowE w7 g h := by
            rw [ew7]
            have q := R6.alloc (.cells zc_50 50)
            unfold RowE at q ⊢
            rw [setRow_other _ _ _ _ (by omega)]
            exact q
          have HNR := Lib.hid hnr
          have H7 := Lib.hid h7
          have HB7 := Lib.hid b7
          have HR7 := Lib.hid r7
          have HG := Lib.hid hG
          have HLS7 := Lib.hid hls
          clear hnr h7 b7 r7 hG hls R6 B6
          go_wp2_with (refine wpList_store_row rfl 50 (.tmp 10) (.tmp 38) rfl w6.heap.size (arrE G) rfl rfl _ (arrE fun _ => 0) HNR.out (by rw [size_arrE]; kernel_rfl) (by rw [size_arrE, size_arrE]) (oneCell_arrE _) ?_)
          rw [← ew7]
          clear ew7 HNR
          obtain ⟨g2, hg2⟩ : ∃ g2, g2 = w6.heap.size := ⟨_, rfl⟩
          have hne : g ≠ g2 := by omega
          rw [← hg2] at H7 ⊢
          clear hg2 s6
          go_loopw [11] (fun v wi => ∃ (q : Nat) (h : Nat → Int), 1 ≤ q ∧ q ≤ N ∧ v = .int .i64 q ∧ RowE wi g h ∧ RowE wi g2 G ∧ LeastE N (fun s x => (WayE M a b 1 s x ∨ UpE M a b false t s x) ∨ (s < q ∧ DirE M a b false t s x)) h ∧ Below g w4 wi) (fun v _ => N - (intOf v).toNat)
          case atStart => exact ⟨1, h, by omega, hall1, rfl, HR7.out, H7.out, HLS7.out.congr (fun s x h0 _ => ⟨.inl, fun z => by rcases z with z | z; exact z; exact absurd z.1 (by omega)⟩), HB7.out⟩
          case round =>
            clear HLS7 H7 HR7 HB7
            obtain ⟨q, h, hq1, hq2, rfl, hrow, hrg, hls, hB⟩ := hrel
            have sB3 := hB.size
            by_cases hlq : q < N
            · have hlqi : (q : Int) < (N : Int) := by omega
              have y1 : (q : Int) < 145 := by omega
              have y2 : q < 145 := by omega
              have q0 : wr.cell? ⟨g, q, none⟩ = some (.int .i64 (h q)) := hrow.cell (by omega)
              have q1 : wr.cell? ⟨g2, q, none⟩ = some (.int .i64 (G q)) := hrg.cell (by omega)
              have HMN := Lib.hid (hls.step hq1 hlq (by omega) (HG.out q (by omega)))
              have frz := hrow.free q
              have HST := Lib.hid (fun v => (hrow.drew.set q v))
              have HSG := Lib.hid (fun v => (hrg.drew.other (q := g) (k := q) (v := .int .i64 v) hne))
              have HBS := Lib.hid (fun v => hB.drew.setCell (p := ⟨g, q, none⟩) (Nat.le_refl _) v)
              clear hrow hrg hls hB
              generalize h q = c at *
              generalize G q = s2 at *
              rcases (show c < s2 ∨ c = s2 ∨ s2 < c by omega) with hc | hc | hc
              · have hmn : Min.min c s2 = c := by omega
                rw [hmn] at HMN
                have hc2 : ¬ s2 < c := by omega
                have hc3 : ¬ s2 ≤ c := by omega
                clear hmn
                go_wp2
                go_still_tail 9, (by kernel_rfl)
                repeat still_step
                change wpList _ _ _ _ _ wr.drew
                have c7d : wr.drew.cell? ⟨g, q, none⟩ = some (.int .i64 c) := q0
                have f7d : wr.drew.frozen? ⟨g, q, none⟩ = false := frz
                clear q0 frz q1
                go_wp2
                go_roundw
                case rel => exact ⟨q + 1, _, by omega, by omega, by go_num, HST.out _, HSG.out _, HMN.out, HBS.out _⟩
                case measure => simp [intOf]; omega
              · have hmn : Min.min c s2 = c := by omega
                rw [hmn] at HMN
                subst hc
                clear hmn
                go_wp2
                go_still_tail 9, (by kernel_rfl)
                repeat still_step
                change wpList _ _ _ _ _ wr.drew
                have c7d : wr.drew.cell? ⟨g, q, none⟩ = some (.int .i64 c) := q0
                have f7d : wr.drew.frozen? ⟨g, q, none⟩ = false := frz
                clear q0 frz q1
                go_wp2
                go_roundw
                case rel => exact ⟨q + 1, _, by omega, by omega, by go_num, HST.out _, HSG.out _, HMN.out, HBS.out _⟩
                case measure => simp [intOf]; omega
              · have hmn : Min.min c s2 = s2 := by omega
                rw [hmn] at HMN
                have hc2 : ¬ c < s2 := by omega
                have hc3 : ¬ c ≤ s2 := by omega
                clear hmn
                go_wp2
                go_still_tail 9, (by kernel_rfl)
                repeat still_step
                change wpList _ _ _ _ _ wr.drew
                have c7d : wr.drew.cell? ⟨g, q, none⟩ = some (.int .i64 c) := q0
                have f7d : wr.drew.frozen? ⟨g, q, none⟩ = false := frz
                clear q0 frz q1
                go_wp2
                go_roundw
                case rel => exact ⟨q + 1, _, by omega, by omega, by go_num, HST.out _, HSG.out _, HMN.out, HBS.out _⟩
                case measure => simp [intOf]; omega
            · obtain rfl : q = N := by omega
              have hnm : ¬ ((q : Nat) : Int) < (q : Int) := by omega
              have HRm := Lib.hid hrow
              have HLm := Lib.hid hls
              have HBm := Lib.hid hB
              clear hrow hrg hls hB
              go_wp2
              go_roundw
              case rel => exact ⟨t + 1, h, by omega, by omega, by go_num, HRm.out, HLm.out.congr (fun s x h0 h1 => by
                rw [upE_succ ht1, or_assoc]
                constructor
                · rintro (z | z | z)
                  · exact .inl z
                  · exact .inr (.inl z)
                  · exact .inr (.inr z.2)
                · rintro (z | z | z)
                  · exact .inl z
                  · exact .inr (.inl z)
                  · exact .inr (.inr ⟨h1, z⟩)), HBm.out⟩
              case measure => simp [intOf]; omega
        · have ht : t = b / 2 + 1 := by omega
          have HRm := Lib.hid hrow
          have HLm := Lib.hid hls
          clear hrow hls HROW HLS HB
          go_wp2_with fail
          refine (HLN.out _ _).mono ?_; rintro e w5 ⟨rfl, hb5⟩
          have HBm := Lib.hid (hB.trans (hb5.mono (Nat.le_trans (Nat.le_of_lt hgs) sB2)))
          have HRn := Lib.hid (HRm.out.below hb5 HRm.out.lt)
          clear hb5 hB d0 d1 HRm
          go_wp2
          go_roundw
          case rel => exact ⟨1 + 1, h, by omega, by go_num, HRn.out, HLm.out.congr (fun s x _ _ => by rw [ht, wayE_two]), HBm.out⟩
          case measure => simp [intOf]
    · have hres := HR4.out.below hB hgw
      have HSET := Lib.hid (setRow_heap wr (w.heap.size + 1) _ (arrE f) _ _ hres)
      have HBR := Lib.hid (below_setRowE (HB4.out.trans (hB.mono (by omega))) (g := w.heap.size + 1) (by omega) (arrE f))
      have HROW := Lib.hid hrow
      have HRES := Lib.hid hres
      have HMN := Lib.hid (hls.congr (T := fun s x => CandH (lyN M) a b s x) (fun s x _ _ => wayE_cand))
      clear hrow hls hB hres
      rw [show ((2 : Nat) : Int) = 2 from rfl]
      go_wp2_with (first | refine wpList_load_row rfl 50 _ rfl g rfl _ (arrE f) _ _ HROW.out Try.underlying50 rfl (by rw [size_arrE]; kernel_rfl) ?_ | refine wpList_store_row rfl 50 _ _ rfl (w.heap.size + 1) (arrE f) rfl rfl _ _ HRES.out (by rw [size_arrE]; kernel_rfl) (by rw [size_arrE, size_arrE]) (oneCell_arrE _) ?_)
      refine bodyPost_ret (v := .agg (arrE f)) (results_cell_row Try.results43 _ _ (w.heap.size + 1) _ _ _ _ rfl HSET.out Try.underlying50 rfl (by rw [size_arrE]; kernel_rfl)) rfl ⟨f, rfl, HMN.out, HBR.out⟩
end Go.Proofs.Ytobncknlipeinaa
