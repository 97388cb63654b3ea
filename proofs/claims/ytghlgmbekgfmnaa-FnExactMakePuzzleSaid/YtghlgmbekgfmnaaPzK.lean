/-
  Contracts: made clues (nextNumber, makeClue, pzNext, pzOf), MakePuzzle of the program and of the model. Conditions: none.
-/
import Derived.Test.YtghlgmbekgfmnaaPzD
import Derived.Test.YtghlgmbekgfmnaaRegA
namespace Go.Proofs.Ytghlgmbekgfmnaa
open Go.RowKit Go.Maps
set_option linter.unusedVariables false
set_option linter.unusedSimpArgs false

theorem gb_setO (w : World) (b o : Nat) (u : Value) : w.grownBy (w.setCell ⟨b, o, none⟩ u) (some b) := ⟨rfl, rfl, rfl, by simp, fun i _ hi => by
    have e : b ≠ i := fun e => hi (by rw [e])
    simp [World.setCell, Array.getElem?_modify, e]⟩
theorem TM.set {K : Nat → Prop} {N h0 b o : Nat} {w : World} (h : TM K N w h0) (u : Value) (hb : N ≤ b) : TM K N (w.setCell ⟨b, o, none⟩ u) h0 := h.grown (gb_setO w b o u) (fun q e => by cases e; exact hb)
theorem Chg.set {K : Nat → Prop} {a w : World} (h : Chg K a w) (b o : Nat) (u : Value) (hb : a.heap.size ≤ b) : Chg K a (w.setCell ⟨b, o, none⟩ u) := h.of_row (gb_setO w b o u) (fun q e => by cases e; exact hb)

theorem new3 (w : World) (e : TypeId) (a b c : Int) : ∀ (j : Nat) (u : Value), (boxCells [(a, b, c)])[j]? = some u → (w.alloc (.cells #[.int .i64 a, .int .i64 b, .int .i64 c] e)).cell? ((⟨w.heap.size, 0, none⟩ : Addr).add j) = some u := by
  intro j u hj
  match j, hj with
  | 0, hj => simp [boxCells] at hj; subst hj; simp [Addr.add, go_sem]
  | 1, hj => simp [boxCells] at hj; subst hj; simp [Addr.add, go_sem]
  | 2, hj => simp [boxCells] at hj; subst hj; simp [Addr.add, go_sem]
  | j + 3, hj => simp [boxCells] at hj
/-- the next number -/
def nxt (z : Int) : Int := Int.tmod (z * 283 + 1021) 10007
theorem nxt_in {z : Int} (h : 0 ≤ z ∧ z ≤ 10006) : 0 ≤ nxt z ∧ nxt z ≤ 10006 := by
  unfold nxt
  rw [Int.tmod_eq_emod_of_nonneg (by omega)]
  omega
/-- A of a made clue -/
def mkA (k y : Int) : Int := Int.tmod y (mostA k + 1)
theorem mkA_in (k : Int) {y : Int} (h : 0 ≤ y) : 0 ≤ mkA k y ∧ mkA k y ≤ mostA k := by
  have hm := mostA_le k
  unfold mkA
  rw [Int.tmod_eq_emod_of_nonneg h]
  have h1 := Int.emod_nonneg y (show mostA k + 1 ≠ 0 by omega)
  have h2 := Int.emod_lt_of_pos y (show 0 < mostA k + 1 by omega)
  omega
/-- a made clue -/
def mkC (k y : Int) (l : List Int) : Clu := (k, mkA k y, tellI k (mkA k y) l)
/-- the kind of the clue behind a number -/
def kndI (z : Int) : Int := Int.tmod (nxt z) 6
theorem kndI_in {z : Int} (h : 0 ≤ z ∧ z ≤ 10006) : 0 ≤ kndI z ∧ kndI z < 6 := by
  have := nxt_in h
  unfold kndI
  rw [Int.tmod_eq_emod_of_nonneg (by omega)]
  omega
def zK (z : Int) : Nat → Int
  | 0 => z
  | k + 1 => nxt (nxt (zK z k))
theorem zK_in {z : Int} (h : 0 ≤ z ∧ z ≤ 10006) : ∀ k, 0 ≤ zK z k ∧ zK z k ≤ 10006
  | 0 => h
  | k + 1 => nxt_in (nxt_in (zK_in h k))
/-- the first clues that are made -/
def mdK (l : List Int) (z : Int) (k : Nat) : List Clu := (List.range k).map fun i => mkC (kndI (zK z i)) (zK z (i + 1)) l
theorem mdK_succ (l : List Int) (z : Int) (k : Nat) : mdK l z (k + 1) = mdK l z k ++ [mkC (kndI (zK z k)) (zK z (k + 1)) l] := by simp [mdK, List.range_succ]
theorem length_mdK (l : List Int) (z : Int) (k : Nat) : (mdK l z k).length = k := by simp [mdK]
/-- what MakePuzzle returns -/
def mdB (l : List Int) (c s : Int) : Bool := hidB l && (decide (0 ≤ c ∧ c ≤ 6) && decide (0 ≤ s ∧ s ≤ 9999))
def mdR (l : List Int) (c s : Int) : List Clu := if mdB l c s then mdK l s c.toNat else []
theorem length_mdR (l : List Int) (c s : Int) : (mdR l c s).length ≤ 6 := by
  unfold mdR
  cases h : mdB l c s
  · simp
  · simp only [mdB, Bool.and_eq_true, decide_eq_true_eq] at h
    simp only [if_true, length_mdK]
    omega

set_option maxHeartbeats 400000 in
theorem nextNumber_any (z : Int) (w : World) (h : 0 ≤ z ∧ z ≤ 10006) :
    Calls Try.prog 88 #[.int .i64 z] w fun e w' => e = .returned (.int .i64 (nxt z)) ∧ w = w' := by
  have h1 : IntKind.i64.wrap (z * 283) = z * 283 := IntWalk.i64_in _ (by omega)
  have h2 : IntKind.i64.wrap (z * 283 + 1021) = z * 283 + 1021 := IntWalk.i64_in _ (by omega)
  have h3 : (z * 283 + 1021).tmod 10007 = nxt z := rfl
  have hi := nxt_in h
  have h4 : IntKind.i64.wrap (nxt z) = nxt z := IntWalk.i64_in _ (by omega)
  go_enter Try.func88, Try.ntmps88
  go_wp2
  go_ret
  exact ⟨by first | rfl | (refine ret_int ?_; first | exact h3 | (rw [h3]) | omega), rfl⟩

set_option maxHeartbeats 400000 in
theorem pzNext_any (z : Int) (w : World) (h : 0 ≤ z ∧ z ≤ 10006) :
    Calls Try.prog 86 #[.int .i64 z] w fun e w' => e = .returned (.int .i64 (nxt z)) ∧ w = w' := by
  have h1 : IntKind.i64.wrap (283 * z) = 283 * z := IntWalk.i64_in _ (by omega)
  have h2 : IntKind.i64.wrap (283 * z + 1021) = 283 * z + 1021 := IntWalk.i64_in _ (by omega)
  have h3 : (283 * z + 1021).tmod 10007 = nxt z := by unfold nxt; rw [Int.mul_comm 283 z]
  have hi := nxt_in h
  have h4 : IntKind.i64.wrap (nxt z) = nxt z := IntWalk.i64_in _ (by omega)
  go_enter Try.func86, Try.ntmps86
  go_wp2
  go_ret
  exact ⟨by first | rfl | (refine ret_int ?_; first | exact h3 | (rw [h3]) | omega), rfl⟩

set_option maxRecDepth 100000 in
set_option maxHeartbeats 4000000 in
theorem makeClue_any (K : Nat → Prop) (N h0 : Nat) (k y : Int) (l : List Int) (f : Nat → Int) (w : World) (hk : 0 ≤ k ∧ k < 6) (hy : 0 ≤ y ∧ y ≤ 10006) (hl : ChOK l) (hf : f = fl l) (hm : TM K N w h0) :
    Calls Try.prog 89 #[.int .i64 k, .int .i64 y, arrF f, tellF h0] w fun e w' => e = .returned (bx3 k (mkA k y) (tellI k (mkA k y) l)) ∧ TM K N w' h0 ∧ Chg K w w' := by
  have hA := mkA_in k hy.1
  have hmA := mostA_le k
  have HMO := Lib.hid (fun wx => mostOfClue_any k wx)
  have h1 : IntKind.i64.wrap (mostA k + 1) = mostA k + 1 := IntWalk.i64_in _ (by omega)
  have h3 : y.tmod (mostA k + 1) = mkA k y := rfl
  have h4 : IntKind.i64.wrap (mkA k y) = mkA k y := IntWalk.i64_in _ (by omega)
  have hne : ¬ (mostA k + 1 = 0) := by omega
  have HTE := Lib.hid (fun (wx : World) (h : TM K N wx h0) => tell_any K N h0 k (mkA k y) 0 l f wx hk hA hl hf h)
  have HNW := Lib.hid hm.size
  have HKN := Lib.hid hm.kn
  have hb2 : Below w.heap.size w ((w.alloc (.cells #[.int .i64 (f 0), .int .i64 (f 1), .int .i64 (f 2), .int .i64 (f 3), .int .i64 (f 4), .int .i64 (f 5)] 73)).alloc (.cells #[.int .i64 0, .int .i64 0, .int .i64 0] 25)) := by (repeat (first | (with_reducible exact Below.refl _ _) | (with_reducible assumption) | (with_reducible refine Below.drew ?_) | ((with_reducible refine balloc ?_ _ ?_); · (first | (simp; done) | (simp; omega) | omega)) | ((with_reducible refine bset ?_ _ ?_); · (first | (simp; done) | (simp; omega) | omega)) | (with_reducible refine bdrewN _ ?_) | ((with_reducible refine bcall ?_ (by assumption) ?_); · (first | (simp; done) | (simp; omega) | omega))))
  have hb3 : Below w.heap.size w (((w.alloc (.cells #[.int .i64 (f 0), .int .i64 (f 1), .int .i64 (f 2), .int .i64 (f 3), .int .i64 (f 4), .int .i64 (f 5)] 73)).alloc (.cells #[.int .i64 0, .int .i64 0, .int .i64 0] 25)).alloc (.cells #[.int .i64 k, .int .i64 (mkA k y), .int .i64 0] 25)) := by (repeat (first | (with_reducible exact Below.refl _ _) | (with_reducible assumption) | (with_reducible refine Below.drew ?_) | ((with_reducible refine balloc ?_ _ ?_); · (first | (simp; done) | (simp; omega) | omega)) | ((with_reducible refine bset ?_ _ ?_); · (first | (simp; done) | (simp; omega) | omega)) | (with_reducible refine bdrewN _ ?_) | ((with_reducible refine bcall ?_ (by assumption) ?_); · (first | (simp; done) | (simp; omega) | omega))))
  have HM3 := Lib.hid (hm.below hb3 (Nat.le_refl _))
  have HC3 := Lib.hid (Chg.of_below (K := K) hb3 (Nat.le_refl _))
  have hx := ((BoxF.new w f).alloc (.cells #[.int .i64 0, .int .i64 0, .int .i64 0] 25)).alloc (.cells #[.int .i64 k, .int .i64 (mkA k y), .int .i64 0] 25)
  obtain ⟨c0, c1, c2, c3, c4, c5⟩ := hx.cells
  have e0 : (((w.alloc (.cells #[.int .i64 (f 0), .int .i64 (f 1), .int .i64 (f 2), .int .i64 (f 3), .int .i64 (f 4), .int .i64 (f 5)] 73)).alloc (.cells #[.int .i64 0, .int .i64 0, .int .i64 0] 25)).alloc (.cells #[.int .i64 k, .int .i64 (mkA k y), .int .i64 0] 25)).cell? ⟨w.heap.size + 1, 0, none⟩ = some (.int .i64 0) := by simp [go_sem]
  generalize mkA k y = a at *
  generalize mostA k = ma at *
  clear hl hf hm hb2 hb3 hx hk hy
  go_enter Try.func89, Try.ntmps89
  go_wp2_with (go_at_call 109; refine (HMO.out _).mono ?_; rintro e wx ⟨rfl, rfl⟩)
  have hNw : N ≤ w.heap.size := HNW.out
  refine (HTE.out _ HM3.out).mono ?_; rintro e w4 ⟨rfl, hm4, hch4⟩
  have gr0 : w4.cell? ⟨w.heap.size + 1, 0, none⟩ = some (.int .i64 0) := hch4.cell (by simp [go_sem]) (fun e => by have := HKN.out _ e; simp at this; omega)
  have gr1 : w4.cell? ⟨w.heap.size + 1, 1, none⟩ = some (.int .i64 0) := hch4.cell (by simp [go_sem]) (fun e => by have := HKN.out _ e; simp at this; omega)
  have gr2 : w4.cell? ⟨w.heap.size + 1, 2, none⟩ = some (.int .i64 0) := hch4.cell (by simp [go_sem]) (fun e => by have := HKN.out _ e; simp at this; omega)
  have zr : w4.frozen? ⟨w.heap.size + 1, 0, none⟩ = false := (World.frozen?_of_block (hch4.block _ (by first | (simp; done) | (simp; omega)) (fun e => by have := HKN.out _ e; simp at this; omega))).trans (by simp [go_sem])
  have zr1 : w4.frozen? ⟨w.heap.size + 1, 1, none⟩ = false := (World.frozen?_of_block (hch4.block _ (by first | (simp; done) | (simp; omega)) (fun e => by have := HKN.out _ e; simp at this; omega))).trans (by simp [go_sem])
  have zr2 : w4.frozen? ⟨w.heap.size + 1, 2, none⟩ = false := (World.frozen?_of_block (hch4.block _ (by first | (simp; done) | (simp; omega)) (fun e => by have := HKN.out _ e; simp at this; omega))).trans (by simp [go_sem])
  have gc0 : w4.cell? ⟨w.heap.size + 1 + 1, 0, none⟩ = some (.int .i64 k) := hch4.cell (by simp [go_sem]) (fun e => by have := HKN.out _ e; simp at this; omega)
  have gc1 : w4.cell? ⟨w.heap.size + 1 + 1, 1, none⟩ = some (.int .i64 a) := hch4.cell (by simp [go_sem]) (fun e => by have := HKN.out _ e; simp at this; omega)
  have gc2 : w4.cell? ⟨w.heap.size + 1 + 1, 2, none⟩ = some (.int .i64 0) := hch4.cell (by simp [go_sem]) (fun e => by have := HKN.out _ e; simp at this; omega)
  have zc : w4.frozen? ⟨w.heap.size + 1 + 1, 0, none⟩ = false := (World.frozen?_of_block (hch4.block _ (by first | (simp; done) | (simp; omega)) (fun e => by have := HKN.out _ e; simp at this; omega))).trans (by simp [go_sem])
  have zc1 : w4.frozen? ⟨w.heap.size + 1 + 1, 1, none⟩ = false := (World.frozen?_of_block (hch4.block _ (by first | (simp; done) | (simp; omega)) (fun e => by have := HKN.out _ e; simp at this; omega))).trans (by simp [go_sem])
  have zc2 : w4.frozen? ⟨w.heap.size + 1 + 1, 2, none⟩ = false := (World.frozen?_of_block (hch4.block _ (by first | (simp; done) | (simp; omega)) (fun e => by have := HKN.out _ e; simp at this; omega))).trans (by simp [go_sem])
  have s4 := hch4.size
  simp at s4
  generalize htv : tellI k a l = tv at *
  have HTV := Lib.hid htv
  clear htv
  have HM4 := Lib.hid hm4
  have HC4 := Lib.hid (HC3.out.trans hch4)
  clear hm4 hch4 HM3 HC3 c0 c1 c2 c3 c4 c5 e0
  go_wp2
  refine bodyPost_ret (v := bx3 k a tv) (by simp [results, Try.results89, go_sem, gr0, gr1, gr2, gc0, gc1, gc2]) rfl ⟨by rw [HTV.out], ?_, ?_⟩
  · exact TM.set (TM.set (TM.set (TM.set HM4.out _ (by omega)) _ (by omega)) _ (by omega)) _ (by omega)
  · exact Chg.set (Chg.set (Chg.set (Chg.set HC4.out _ _ _ (by omega)) _ _ _ (by omega)) _ _ _ (by omega)) _ _ _ (by omega)

set_option maxRecDepth 100000 in
set_option maxHeartbeats 8000000 in
theorem makePuzzle_any (A : Option Addr) (n c : Nat) (l : List Int) (cl sd : Int) (w : World) (hr : Rd w 1 A n (intCells l)) (hn : n ≤ 1000000000) :
    Calls Try.prog 60 #[.slice A n c, .int .i64 cl, .int .i64 sd] w fun e w' => ∃ A' n' c', e = .returned (.tuple #[puzV A' n' c', .bool (mdB l cl sd)]) ∧ w'.ownsRow w.heap.size 25 3 (.slice A' n' c') n' (boxCells (mdR l cl sd)) ∧ Below w.heap.size w w' := by
  have HG := Lib.hid (fun wx h => hiddenOf_any A n c l wx h hn)
  have hb0 : Below w.heap.size w (w.alloc (.cells #[.slice none 0 0] 35)) := by (repeat (first | (with_reducible exact Below.refl _ _) | (with_reducible assumption) | (with_reducible refine Below.drew ?_) | ((with_reducible refine balloc ?_ _ ?_); · (first | (simp; done) | (simp; omega) | omega)) | ((with_reducible refine bset ?_ _ ?_); · (first | (simp; done) | (simp; omega) | omega)) | (with_reducible refine bdrewN _ ?_) | ((with_reducible refine bcall ?_ (by assumption) ?_); · (first | (simp; done) | (simp; omega) | omega))))
  cases hd : mdB l cl sd
  · rw [show mdR l cl sd = [] by simp [mdR, hd]]
    have hcase : hidB l = false ∨ (hidB l = true ∧ cl < 0) ∨ (hidB l = true ∧ ¬ cl < 0 ∧ 6 < cl) ∨ (hidB l = true ∧ ¬ cl < 0 ∧ ¬ 6 < cl ∧ sd < 0) ∨ (hidB l = true ∧ ¬ cl < 0 ∧ ¬ 6 < cl ∧ ¬ sd < 0 ∧ 9999 < sd) := by
      cases hh : hidB l
      · exact .inl rfl
      · by_cases a1 : cl < 0
        · exact .inr (.inl ⟨rfl, a1⟩)
        by_cases a2 : 6 < cl
        · exact .inr (.inr (.inl ⟨rfl, a1, a2⟩))
        by_cases a3 : sd < 0
        · exact .inr (.inr (.inr (.inl ⟨rfl, a1, a2, a3⟩)))
        refine .inr (.inr (.inr (.inr ⟨rfl, a1, a2, a3, ?_⟩)))
        by_cases a4 : 9999 < sd
        · exact a4
        · rw [mdB, hh] at hd
          simp at hd
          omega
    generalize hF : hidF l = F at *
    clear hd hF
    rcases hcase with hh | ⟨hh, k1⟩ | ⟨hh, k1, k2⟩ | ⟨hh, k1, k2, k3⟩ | ⟨hh, k1, k2, k3, k4⟩
    all_goals
      rw [hh] at HG
      clear hh
      go_enter Try.func60, Try.ntmps60
      go_wp2_with fail
      refine (HG.out _ (hr.later (B := w.heap.size) hb0 (Nat.le_refl _))).mono ?_; rintro e w1 ⟨rfl, hb1⟩
      have s1 := hb1.size
      simp at s1
      have d0 : w1.cell? ⟨w.heap.size, 0, none⟩ = some (.slice none 0 0) := (hb1.cell (p := ⟨w.heap.size, 0, none⟩) (by simp)).trans (by simp [go_sem])
      have f0 : w1.frozen? ⟨w.heap.size, 0, none⟩ = false := (hb1.frozen (p := ⟨w.heap.size, 0, none⟩) (by simp)).trans (by simp [go_sem])
      have hB1 := hb0.trans (hb1.mono hb0.size)
      have z0 : w.heap.size < w1.heap.size := by omega
      clear hb1
      go_wp2
      refine bodyPost_ret (v := .tuple #[puzV none 0 0, .bool false]) (by simp [results, Try.results60, go_sem, d0, z0]) rfl ⟨none, 0, 0, rfl, World.ownsRow_nil _ _ _ _, ?_⟩
      (repeat (first | (with_reducible exact Below.refl _ _) | (with_reducible assumption) | (with_reducible refine Below.drew ?_) | ((with_reducible refine balloc ?_ _ ?_); · (first | (simp; done) | (simp; omega) | omega)) | ((with_reducible refine bset ?_ _ ?_); · (first | (simp; done) | (simp; omega) | omega)) | (with_reducible refine bdrewN _ ?_) | ((with_reducible refine bcall ?_ (by assumption) ?_); · (first | (simp; done) | (simp; omega) | omega))))
  · obtain ⟨hh, hc0, hc6, hs0, hs9⟩ : hidB l = true ∧ 0 ≤ cl ∧ cl ≤ 6 ∧ 0 ≤ sd ∧ sd ≤ 9999 := by
      simp only [mdB, Bool.and_eq_true, decide_eq_true_eq] at hd
      exact ⟨hd.1, hd.2.1.1, hd.2.1.2, hd.2.2.1, hd.2.2.2⟩
    obtain ⟨i0, hi, hz0, hi1, hi2⟩ := info_parts clue_info
    have HLR : Hid (mdR l cl sd = mdK l sd cl.toNat) := by simp [Hid, mdR, hd]
    obtain ⟨cn, rfl⟩ : ∃ cn : Nat, cl = cn := ⟨cl.toNat, by omega⟩
    rw [Int.toNat_natCast] at HLR
    have HH := Lib.hid (hidB_true hh)
    have hhf := hidF_yes hh
    rw [hh] at HG
    obtain ⟨f, hf⟩ : ∃ f, f = fl l := ⟨_, rfl⟩
    have HF := Lib.hid hf
    rw [hhf, ← hf] at HG
    have HZ := Lib.hid (fun k => zK_in (z := sd) (by omega) k)
    clear hhf hh hf hd
    go_enter Try.func60, Try.ntmps60
    go_wp2_with fail
    refine (HG.out _ (hr.later (B := w.heap.size) hb0 (Nat.le_refl _))).mono ?_; rintro e w1 ⟨rfl, hb1⟩
    have s1 := hb1.size
    simp at s1
    have d0 : w1.cell? ⟨w.heap.size, 0, none⟩ = some (.slice none 0 0) := (hb1.cell (p := ⟨w.heap.size, 0, none⟩) (by simp)).trans (by simp [go_sem])
    have f0 : w1.frozen? ⟨w.heap.size, 0, none⟩ = false := (hb1.frozen (p := ⟨w.heap.size, 0, none⟩) (by simp)).trans (by simp [go_sem])
    have hB1 := hb0.trans (hb1.mono hb0.size)
    have z0 : w.heap.size < w1.heap.size := by omega
    have hbh : Below w1.heap.size w1 (w1.alloc (.cells #[.int .i64 (f 0), .int .i64 (f 1), .int .i64 (f 2), .int .i64 (f 3), .int .i64 (f 4), .int .i64 (f 5)] 73)) := (Below.refl _ _).alloc (Nat.le_refl _) _
    have hsh : (w1.alloc (.cells #[.int .i64 (f 0), .int .i64 (f 1), .int .i64 (f 2), .int .i64 (f 3), .int .i64 (f 4), .int .i64 (f 5)] 73)).heap.size = w1.heap.size + 1 := by simp
    have HBX := Lib.hid (BoxF.new w1 f)
    have d1 := (hbh.cell (p := ⟨w.heap.size, 0, none⟩) z0).trans d0
    have f1 := (hbh.frozen (p := ⟨w.heap.size, 0, none⟩) z0).trans f0
    have HB1 := Lib.hid (hB1.trans (hbh.mono hB1.size))
    have hw1 := hB1.size
    clear hb1 hB1 hbh d0 f0
    go_wp2_with fail
    refine (clueTeller_any _).mono ?_; rintro e w2 ⟨KK, h0, rfl, ht2, hb2, hK2⟩
    have s2 := hb2.size
    rw [hsh] at s2
    have d2 := (hb2.cell (p := ⟨w.heap.size, 0, none⟩) (by rw [hsh]; show w.heap.size < _; omega)).trans d1
    have f2 := (hb2.frozen (p := ⟨w.heap.size, 0, none⟩) (by rw [hsh]; show w.heap.size < _; omega)).trans f1
    have hx2 := HBX.out.below hb2 (Nat.le_refl _)
    have HB2 := Lib.hid (HB1.out.trans (hb2.mono HB1.out.size))
    have hb3 : Below w2.heap.size w2 (w2.alloc (.cells #[.slice none 0 0] 35)) := (Below.refl _ _).alloc (Nat.le_refl _) _
    have hx3 := hx2.below hb3 (Nat.le_refl _)
    have HX3 := Lib.hid hx3
    have HM3 := Lib.hid (ht2.below hb3 (Nat.le_refl _))
    have HC3 := Lib.hid (Chg.of_below (K := KK) hb3 (Nat.le_refl _))
    have HKN := Lib.hid ht2.kn
    have HK2 : Hid (∀ i, KK i → w1.heap.size + 1 ≤ i) := fun i hi => by have := hK2 i hi; rw [hsh] at this; exact this
    have HD3 : Hid ((w2.alloc (.cells #[.slice none 0 0] 35)).cell? ⟨w2.heap.size, 0, none⟩ = some (.slice none 0 0)) := by simp [Hid, go_sem]
    have HF3 : Hid ((w2.alloc (.cells #[.slice none 0 0] 35)).frozen? ⟨w2.heap.size, 0, none⟩ = false) := by simp [Hid, go_sem]
    have HDR := Lib.hid d2
    have HFR := Lib.hid f2
    have h12 : w1.heap.size < w2.heap.size := by omega
    have h02 : w.heap.size < w2.heap.size := by omega
    clear hb2 ht2 hK2 hx2 hx3 hb3 d1 f1 d2 f2 HBX s2 hsh
    go_wp2
    go_loopw [12, 41] (fun z i wr => ∃ (k : Nat) (A' : Option Addr) (c' : Nat), k ≤ cn ∧ i = .int .i64 k ∧ z = .int .i64 (zK sd k) ∧ wr.cell? ⟨w2.heap.size, 0, none⟩ = some (.slice A' k c') ∧ wr.frozen? ⟨w2.heap.size, 0, none⟩ = false ∧ wr.ownsRow (w2.heap.size + 1) 25 3 (.slice A' k c') k (boxCells (mdK l sd k)) ∧ BoxF wr w1.heap.size f ∧ TM KK w2.heap.size wr h0 ∧ Chg KK w2 wr ∧ w2.heap.size < wr.heap.size) (fun _ i _ => cn - (intOf i).toNat)
    case atStart => exact ⟨0, none, 0, Nat.zero_le _, rfl, rfl, HD3.out, HF3.out, World.ownsRow_nil _ _ _ _, HX3.out, HM3.out, HC3.out, by simp⟩
    case round =>
      clear HD3 HF3 HX3 HM3 HC3
      obtain ⟨k, A', c', hk, rfl, rfl, hmc, hmf, hown, hx, hm, hch, hsz⟩ := hrel
      have sw := hch.size
      by_cases hlt : k < cn
      · have hz := HZ.out k
        have hz1 := nxt_in hz
        have hz2 := nxt_in hz1
        have hzk : zK sd (k + 1) = nxt (nxt (zK sd k)) := rfl
        have HZK := Lib.hid hzk
        have hkd := kndI_in hz
        have HMD := Lib.hid (mdK_succ l sd k)
        rw [hzk] at HMD
        have hkk : (nxt (zK sd k)).tmod 6 = kndI (zK sd k) := rfl
        have HN1 := Lib.hid (fun wx => nextNumber_any (zK sd k) wx hz)
        have HN2 := Lib.hid (fun wx => nextNumber_any (nxt (zK sd k)) wx hz1)
        have HMC := Lib.hid (fun (wx : World) (h : TM KK w2.heap.size wx h0) => makeClue_any KK w2.heap.size h0 (kndI (zK sd k)) (nxt (nxt (zK sd k))) l f wx hkd hz2 HH.out.1 HF.out h)
        have hmkc : mkC (kndI (zK sd k)) (nxt (nxt (zK sd k))) l = (kndI (zK sd k), mkA (kndI (zK sd k)) (nxt (nxt (zK sd k))), tellI (kndI (zK sd k)) (mkA (kndI (zK sd k)) (nxt (nxt (zK sd k)))) l) := rfl
        rw [hmkc] at HMD
        generalize tellI (kndI (zK sd k)) (mkA (kndI (zK sd k)) (nxt (nxt (zK sd k)))) l = tv at *
        generalize mkA (kndI (zK sd k)) (nxt (nxt (zK sd k))) = av at *
        generalize kndI (zK sd k) = kd at *
        have hwk : IntKind.i64.wrap kd = kd := IntWalk.i64_in _ (by omega)
        generalize nxt (nxt (zK sd k)) = z2 at *
        generalize nxt (zK sd k) = z1 at *
        generalize zK sd k = zz at *
        have HOW := Lib.hid hown
        have HCH := Lib.hid hch
        have HMM := Lib.hid hm
        have HXX := Lib.hid hx
        obtain ⟨y0, y1, y2, y3, y4, y5⟩ := hx.cells
        have hc3 : k + 1 ≤ maxLen := by simp only [maxLen]; omega
        have hc4 : (k + 1) * 24 ≤ 140737488355328 := by omega
        clear hown hch hm hx hzk hmkc
        go_wp2_with fail
        refine (HN1.out _).mono ?_; rintro e wx ⟨rfl, rfl⟩
        go_wp2_with fail
        refine (HN2.out _).mono ?_; rintro e wx ⟨rfl, rfl⟩
        go_wp2
        refine wp_region_held_drew (S := (fun w' => w'.cell? ⟨w1.heap.size, 0, none⟩ = some (.int .i64 (f 0)) ∧ w'.cell? ⟨w1.heap.size, 1, none⟩ = some (.int .i64 (f 1)) ∧ w'.cell? ⟨w1.heap.size, 2, none⟩ = some (.int .i64 (f 2)) ∧ w'.cell? ⟨w1.heap.size, 3, none⟩ = some (.int .i64 (f 3)) ∧ w'.cell? ⟨w1.heap.size, 4, none⟩ = some (.int .i64 (f 4)) ∧ w'.cell? ⟨w1.heap.size, 5, none⟩ = some (.int .i64 (f 5)))) (by kernel_rfl) ?_ (fun hHeld => ?_)
        · ((try dsimp only); (repeat' apply And.intro); all_goals ((repeat (first | (with_reducible refine cell_drew ?_) | (with_reducible refine cell_drewN _ ?_) | ((with_reducible refine cell_alloc ?_ ?_); · first | omega | (simp; done) | (simp; omega) | assumption) | ((with_reducible refine cell_set ?_ ?_); · first | (intro e; injection e; omega) | (intro e; simp at e; done) | (intro e; simp at e; omega)))); first | assumption | (simp; done)))
        refine reg_on (i := 0) (d := 47) (v := ?rv1) rfl rfl (by kernel_rfl) (by kernel_rfl) (by kernel_rfl) (fun _ _ _ h => h) (by rfl) ?ry1 (by assumption) ?rr1
        case ry1 => (intro wz hSw; (try dsimp only at hSw); go_simp; try with_reducible rfl)
        (try simp only [Act.put, List.setIfInBounds_toArray, List.set_cons_zero, List.set_cons_succ])
        refine reg_on (i := 2) (d := 49) (v := ?rv2) rfl rfl (by kernel_rfl) (by kernel_rfl) (by kernel_rfl) (fun _ _ _ h => h) (by rfl) ?ry2 (by assumption) ?rr2
        case ry2 => (intro wz hSw; (try dsimp only at hSw); go_simp; try with_reducible rfl)
        (try simp only [Act.put, List.setIfInBounds_toArray, List.set_cons_zero, List.set_cons_succ])
        refine reg_on (i := 3) (d := 50) (v := ?rv3) rfl rfl (by kernel_rfl) (by kernel_rfl) (by kernel_rfl) (fun _ _ _ h => h) (by rfl) ?ry3 (by assumption) ?rr3
        case ry3 => (intro wz hSw; (try dsimp only at hSw); go_simp; try with_reducible rfl)
        (try simp only [Act.put, List.setIfInBounds_toArray, List.set_cons_zero, List.set_cons_succ])
        refine reg_on (i := 4) (d := 51) (v := ?rv4) rfl rfl (by kernel_rfl) (by kernel_rfl) (by kernel_rfl) (fun _ _ _ h => h) (by rfl) ?ry4 (by assumption) ?rr4
        case ry4 => (intro wz hSw; (try dsimp only at hSw); go_simp; try with_reducible rfl)
        (try simp only [Act.put, List.setIfInBounds_toArray, List.set_cons_zero, List.set_cons_succ])
        refine reg_on (i := 5) (d := 52) (v := ?rv5) rfl rfl (by kernel_rfl) (by kernel_rfl) (by kernel_rfl) (fun _ _ _ h => h) (by rfl) ?ry5 (by assumption) ?rr5
        case ry5 => (intro wz hSw; (try dsimp only at hSw); go_simp; try with_reducible rfl)
        (try simp only [Act.put, List.setIfInBounds_toArray, List.set_cons_zero, List.set_cons_succ])
        refine reg_on (i := 6) (d := 53) (v := ?rv6) rfl rfl (by kernel_rfl) (by kernel_rfl) (by kernel_rfl) (fun _ _ _ h => h) (by rfl) ?ry6 (by assumption) ?rr6
        case ry6 => (intro wz hSw; (try dsimp only at hSw); go_simp; try with_reducible rfl)
        (try simp only [Act.put, List.setIfInBounds_toArray, List.set_cons_zero, List.set_cons_succ])
        refine wpAnyH_ready (rs := [1, 7]) (by kernel_rfl) (by simp) ?_
        refine AllReadyH.cons rfl (fun K hK => ?_) (AllReadyH.cons rfl (fun K hK => ?_) (AllReadyH.nil))
        ·
          go_simp
          refine hK.out _ _ ?_ (fun hHeld => ?_)
          · ((try dsimp only); (repeat' apply And.intro); all_goals ((repeat (first | (with_reducible refine cell_drew ?_) | (with_reducible refine cell_drewN _ ?_) | ((with_reducible refine cell_alloc ?_ ?_); · first | omega | (simp; done) | (simp; omega) | assumption) | ((with_reducible refine cell_set ?_ ?_); · first | (intro e; injection e; omega) | (intro e; simp at e; done) | (intro e; simp at e; omega)))); first | assumption | (simp; done)))
          clear hK K
          (try simp only [Act.put, List.setIfInBounds_toArray, List.set_cons_zero, List.set_cons_succ])
          refine wpAnyH_ready (rs := [7]) (by kernel_rfl) (by simp) ?_
          refine AllReadyH.cons rfl (fun K hK => ?_) (AllReadyH.nil)
          go_simp
          go_at_call 89; refine (HMC.out _ (HMM.out.below (Below.refl _ _).drew (Nat.le_refl _))).mono ?_; rintro e w4 ⟨rfl, hm4, hch4⟩; replace hch4 := (Chg.of_below (K := KK) (Below.refl wr.heap.size wr).drew (Nat.le_refl _)).trans hch4; have s4 := hch4.size; have z4 : w2.heap.size < w4.heap.size := (by omega); have m4 : w4.cell? ⟨w2.heap.size, 0, none⟩ = some (.slice A' k c') := hch4.cell hmc (fun e => by have := HKN.out _ e; simp at this); have g4 : w4.frozen? ⟨w2.heap.size, 0, none⟩ = false := (World.frozen?_of_block (hch4.block _ (by show w2.heap.size < wr.heap.size; omega) (fun e => by have := HKN.out _ e; simp at this))).trans hmf; have own4 := hch4.own HOW.out (fun q hq e => by have e2 := (HOW.out.lt q hq).1; have e3 := HKN.out q e; omega); have hx4 : BoxF w4 w1.heap.size f := hch4.own HXX.out (fun q hq e => by cases hq; have e3 := HK2.out _ e; exact absurd (show w1.heap.size + 1 ≤ w1.heap.size from e3) (by omega)); obtain ⟨x0, x1, x2, x3, x4, x5⟩ := hx4.cells
          refine hK.out _ _ ?_ (fun hHeld => ?_)
          · ((try dsimp only); (repeat' apply And.intro); all_goals ((repeat (first | (with_reducible refine cell_drew ?_) | (with_reducible refine cell_drewN _ ?_) | ((with_reducible refine cell_alloc ?_ ?_); · first | omega | (simp; done) | (simp; omega) | assumption) | ((with_reducible refine cell_set ?_ ?_); · first | (intro e; injection e; omega) | (intro e; simp at e; done) | (intro e; simp at e; omega)))); first | assumption | (simp; done)))
          clear hK K
          (try simp only [Act.put, List.setIfInBounds_toArray, List.set_cons_zero, List.set_cons_succ])
          refine wpAnyH_ready (rs := [8]) (by kernel_rfl) (by simp) ?_
          refine AllReadyH.cons rfl (fun K hK => ?_) (AllReadyH.nil)
          go_simp
          refine hK.out _ _ ?_ (fun hHeld => ?_)
          · ((try dsimp only); (repeat' apply And.intro); all_goals ((repeat (first | (with_reducible refine cell_drew ?_) | (with_reducible refine cell_drewN _ ?_) | ((with_reducible refine cell_alloc ?_ ?_); · first | omega | (simp; done) | (simp; omega) | assumption) | ((with_reducible refine cell_set ?_ ?_); · first | (intro e; injection e; omega) | (intro e; simp at e; done) | (intro e; simp at e; omega)))); first | assumption | (simp; done)))
          clear hK K
          (try simp only [Act.put, List.setIfInBounds_toArray, List.set_cons_zero, List.set_cons_succ])
          refine wpAnyH_ready (rs := [9]) (by kernel_rfl) (by simp) ?_
          refine AllReadyH.cons rfl (fun K hK => ?_) AllReadyH.nil
          refine step_append_own rfl (.tmp 48) (.tmp 55) 33 rfl (w2.heap.size + 1) 25 i0 (bx3 0 0 0) 3 24 Try.underlying33 hi hz0 hi1 hi2 rfl (by decide) _ _ _ rfl (own_alloc own4 (.cells #[.int .i64 kd, .int .i64 av, .int .i64 tv] 25)) ⟨w4.heap.size, 0, none⟩ 1 1 (boxCells [(kd, av, tv)]) rfl rfl (new3 w4 25 kd av tv) (by intro u hu; simp [boxCells] at hu; rcases hu with rfl | rfl | rfl <;> rfl) hc3 hc4 (by simp; omega) ?_; intro v' w5 hown' hgrow _; obtain ⟨A5, c5, rfl⟩ := own_slice hown'; have hrow : ∀ q, (Value.slice A' k c').ownBlock = some q → w2.heap.size + 1 ≤ q := fun q hq => (HOW.out.lt q hq).1; have hg5 := gb_trans (World.grownBy_alloc w4 (.cells #[.int .i64 kd, .int .i64 av, .int .i64 tv] 25) (Value.slice A' k c').ownBlock) hgrow; have s5 := hg5.size; have m5 : w5.cell? ⟨w2.heap.size, 0, none⟩ = some (.slice A' k c') := (World.cell?_of_block (hg5.block w2.heap.size (by omega) (fun e => by have := hrow _ e.symm; omega))).trans m4; have g5 : w5.frozen? ⟨w2.heap.size, 0, none⟩ = false := (World.frozen?_of_block (a := ⟨w2.heap.size, 0, none⟩) (hg5.block w2.heap.size (by omega) (fun e => by have := hrow _ e.symm; omega))).trans g4; have hx5 : BoxF w5 w1.heap.size f := hx4.grownO hg5 (fun e => by have := hrow _ e.symm; omega); obtain ⟨v0, v1, v2, v3, v4, v5⟩ := hx5.cells
          refine hK.out _ _ ?_ (fun hHeld => ?_)
          · ((try dsimp only); (repeat' apply And.intro); all_goals ((repeat (first | (with_reducible refine cell_drew ?_) | (with_reducible refine cell_drewN _ ?_) | ((with_reducible refine cell_alloc ?_ ?_); · first | omega | (simp; done) | (simp; omega) | assumption) | ((with_reducible refine cell_set ?_ ?_); · first | (intro e; injection e; omega) | (intro e; simp at e; done) | (intro e; simp at e; omega)))); first | assumption | (simp; done)))
          clear hK K
          (try simp only [Act.put, List.setIfInBounds_toArray, List.set_cons_zero, List.set_cons_succ])
          refine reg_on (i := 10) (d := 57) (v := ?rv8) rfl rfl (by kernel_rfl) (by kernel_rfl) (by kernel_rfl) (fun _ _ _ h => h) (by rfl) ?ry8 (by assumption) ?rr8
          case ry8 => (intro wz hSw; (try dsimp only at hSw); go_simp; try with_reducible rfl)
          (try simp only [Act.put, List.setIfInBounds_toArray, List.set_cons_zero, List.set_cons_succ])
          refine wpAnyH_ready (rs := [11]) (by kernel_rfl) (by simp) ?_
          refine AllReadyH.cons rfl (fun K hK => ?_) AllReadyH.nil
          go_simp
          refine hK.out _ _ ?_ (fun hHeld => ?_)
          · ((try dsimp only); (repeat' apply And.intro); all_goals ((repeat (first | (with_reducible refine cell_drew ?_) | (with_reducible refine cell_drewN _ ?_) | ((with_reducible refine cell_alloc ?_ ?_); · first | omega | (simp; done) | (simp; omega) | assumption) | ((with_reducible refine cell_set ?_ ?_); · first | (intro e; injection e; omega) | (intro e; simp at e; done) | (intro e; simp at e; omega)))); first | assumption | (simp; done)))
          clear hK K
          (try simp only [Act.put, List.setIfInBounds_toArray, List.set_cons_zero, List.set_cons_succ])
          refine wpAnyH_done (by kernel_rfl) ?_ _
          have P := Lib.hid (show (w5.setCell ⟨w2.heap.size, 0, none⟩ (.slice A5 (k + 1) c5)).cell? ⟨w2.heap.size, 0, none⟩ = some (.slice A5 (k + 1) c5) ∧ (w5.setCell ⟨w2.heap.size, 0, none⟩ (.slice A5 (k + 1) c5)).frozen? ⟨w2.heap.size, 0, none⟩ = false ∧ (w5.setCell ⟨w2.heap.size, 0, none⟩ (.slice A5 (k + 1) c5)).ownsRow (w2.heap.size + 1) 25 3 (.slice A5 (k + 1) c5) (k + 1) (boxCells (mdK l sd (k + 1))) ∧ BoxF (w5.setCell ⟨w2.heap.size, 0, none⟩ (.slice A5 (k + 1) c5)) w1.heap.size f ∧ TM KK w2.heap.size (w5.setCell ⟨w2.heap.size, 0, none⟩ (.slice A5 (k + 1) c5)) h0 ∧ Chg KK w2 (w5.setCell ⟨w2.heap.size, 0, none⟩ (.slice A5 (k + 1) c5)) ∧ w2.heap.size < (w5.setCell ⟨w2.heap.size, 0, none⟩ (.slice A5 (k + 1) c5)).heap.size from ⟨World.cell?_setCell_same _ _ _ m5, by simpa [go_sem] using g5, own_setO (by rw [HMD.out, boxCells_append]; exact hown') _ (fun e => by have := (hown'.lt _ e).1; omega), own_setO hx5 _ (by simp [Value.ownBlock]; omega), (hm4.grown hg5 (fun q hq => by have := hrow q hq; omega)).set _ (Nat.le_refl _), ((HCH.out.trans hch4).of_row hg5 (fun q hq => by have := hrow q hq; omega)).set _ _ _ (Nat.le_refl _), by simp; omega⟩)
          clear m4 g4 own4 hx4 x0 x1 x2 x3 x4 x5 hown' hgrow hrow hg5 m5 g5 hx5 v0 v1 v2 v3 v4 v5 hm4 hch4
          go_wp2
          go_roundw
          case rel => exact ⟨k + 1, A5, c5, by omega, by go_num, by rw [HZK.out], P.out⟩
          case measure => simp [intOf]; omega
        ·
          go_simp
          go_at_call 89; refine (HMC.out _ (HMM.out.below (Below.refl _ _).drew (Nat.le_refl _))).mono ?_; rintro e w4 ⟨rfl, hm4, hch4⟩; replace hch4 := (Chg.of_below (K := KK) (Below.refl wr.heap.size wr).drew (Nat.le_refl _)).trans hch4; have s4 := hch4.size; have z4 : w2.heap.size < w4.heap.size := (by omega); have m4 : w4.cell? ⟨w2.heap.size, 0, none⟩ = some (.slice A' k c') := hch4.cell hmc (fun e => by have := HKN.out _ e; simp at this); have g4 : w4.frozen? ⟨w2.heap.size, 0, none⟩ = false := (World.frozen?_of_block (hch4.block _ (by show w2.heap.size < wr.heap.size; omega) (fun e => by have := HKN.out _ e; simp at this))).trans hmf; have own4 := hch4.own HOW.out (fun q hq e => by have e2 := (HOW.out.lt q hq).1; have e3 := HKN.out q e; omega); have hx4 : BoxF w4 w1.heap.size f := hch4.own HXX.out (fun q hq e => by cases hq; have e3 := HK2.out _ e; exact absurd (show w1.heap.size + 1 ≤ w1.heap.size from e3) (by omega)); obtain ⟨x0, x1, x2, x3, x4, x5⟩ := hx4.cells
          refine hK.out _ _ ?_ (fun hHeld => ?_)
          · ((try dsimp only); (repeat' apply And.intro); all_goals ((repeat (first | (with_reducible refine cell_drew ?_) | (with_reducible refine cell_drewN _ ?_) | ((with_reducible refine cell_alloc ?_ ?_); · first | omega | (simp; done) | (simp; omega) | assumption) | ((with_reducible refine cell_set ?_ ?_); · first | (intro e; injection e; omega) | (intro e; simp at e; done) | (intro e; simp at e; omega)))); first | assumption | (simp; done)))
          clear hK K
          (try simp only [Act.put, List.setIfInBounds_toArray, List.set_cons_zero, List.set_cons_succ])
          refine wpAnyH_ready (rs := [1, 8]) (by kernel_rfl) (by simp) ?_
          refine AllReadyH.cons rfl (fun K hK => ?_) (AllReadyH.cons rfl (fun K hK => ?_) (AllReadyH.nil))
          ·
            go_simp
            refine hK.out _ _ ?_ (fun hHeld => ?_)
            · ((try dsimp only); (repeat' apply And.intro); all_goals ((repeat (first | (with_reducible refine cell_drew ?_) | (with_reducible refine cell_drewN _ ?_) | ((with_reducible refine cell_alloc ?_ ?_); · first | omega | (simp; done) | (simp; omega) | assumption) | ((with_reducible refine cell_set ?_ ?_); · first | (intro e; injection e; omega) | (intro e; simp at e; done) | (intro e; simp at e; omega)))); first | assumption | (simp; done)))
            clear hK K
            (try simp only [Act.put, List.setIfInBounds_toArray, List.set_cons_zero, List.set_cons_succ])
            refine wpAnyH_ready (rs := [8]) (by kernel_rfl) (by simp) ?_
            refine AllReadyH.cons rfl (fun K hK => ?_) (AllReadyH.nil)
            go_simp
            refine hK.out _ _ ?_ (fun hHeld => ?_)
            · ((try dsimp only); (repeat' apply And.intro); all_goals ((repeat (first | (with_reducible refine cell_drew ?_) | (with_reducible refine cell_drewN _ ?_) | ((with_reducible refine cell_alloc ?_ ?_); · first | omega | (simp; done) | (simp; omega) | assumption) | ((with_reducible refine cell_set ?_ ?_); · first | (intro e; injection e; omega) | (intro e; simp at e; done) | (intro e; simp at e; omega)))); first | assumption | (simp; done)))
            clear hK K
            (try simp only [Act.put, List.setIfInBounds_toArray, List.set_cons_zero, List.set_cons_succ])
            refine wpAnyH_ready (rs := [9]) (by kernel_rfl) (by simp) ?_
            refine AllReadyH.cons rfl (fun K hK => ?_) AllReadyH.nil
            refine step_append_own rfl (.tmp 48) (.tmp 55) 33 rfl (w2.heap.size + 1) 25 i0 (bx3 0 0 0) 3 24 Try.underlying33 hi hz0 hi1 hi2 rfl (by decide) _ _ _ rfl (own_alloc own4 (.cells #[.int .i64 kd, .int .i64 av, .int .i64 tv] 25)) ⟨w4.heap.size, 0, none⟩ 1 1 (boxCells [(kd, av, tv)]) rfl rfl (new3 w4 25 kd av tv) (by intro u hu; simp [boxCells] at hu; rcases hu with rfl | rfl | rfl <;> rfl) hc3 hc4 (by simp; omega) ?_; intro v' w5 hown' hgrow _; obtain ⟨A5, c5, rfl⟩ := own_slice hown'; have hrow : ∀ q, (Value.slice A' k c').ownBlock = some q → w2.heap.size + 1 ≤ q := fun q hq => (HOW.out.lt q hq).1; have hg5 := gb_trans (World.grownBy_alloc w4 (.cells #[.int .i64 kd, .int .i64 av, .int .i64 tv] 25) (Value.slice A' k c').ownBlock) hgrow; have s5 := hg5.size; have m5 : w5.cell? ⟨w2.heap.size, 0, none⟩ = some (.slice A' k c') := (World.cell?_of_block (hg5.block w2.heap.size (by omega) (fun e => by have := hrow _ e.symm; omega))).trans m4; have g5 : w5.frozen? ⟨w2.heap.size, 0, none⟩ = false := (World.frozen?_of_block (a := ⟨w2.heap.size, 0, none⟩) (hg5.block w2.heap.size (by omega) (fun e => by have := hrow _ e.symm; omega))).trans g4; have hx5 : BoxF w5 w1.heap.size f := hx4.grownO hg5 (fun e => by have := hrow _ e.symm; omega); obtain ⟨v0, v1, v2, v3, v4, v5⟩ := hx5.cells
            refine hK.out _ _ ?_ (fun hHeld => ?_)
            · ((try dsimp only); (repeat' apply And.intro); all_goals ((repeat (first | (with_reducible refine cell_drew ?_) | (with_reducible refine cell_drewN _ ?_) | ((with_reducible refine cell_alloc ?_ ?_); · first | omega | (simp; done) | (simp; omega) | assumption) | ((with_reducible refine cell_set ?_ ?_); · first | (intro e; injection e; omega) | (intro e; simp at e; done) | (intro e; simp at e; omega)))); first | assumption | (simp; done)))
            clear hK K
            (try simp only [Act.put, List.setIfInBounds_toArray, List.set_cons_zero, List.set_cons_succ])
            refine reg_on (i := 10) (d := 57) (v := ?rv11) rfl rfl (by kernel_rfl) (by kernel_rfl) (by kernel_rfl) (fun _ _ _ h => h) (by rfl) ?ry11 (by assumption) ?rr11
            case ry11 => (intro wz hSw; (try dsimp only at hSw); go_simp; try with_reducible rfl)
            (try simp only [Act.put, List.setIfInBounds_toArray, List.set_cons_zero, List.set_cons_succ])
            refine wpAnyH_ready (rs := [11]) (by kernel_rfl) (by simp) ?_
            refine AllReadyH.cons rfl (fun K hK => ?_) AllReadyH.nil
            go_simp
            refine hK.out _ _ ?_ (fun hHeld => ?_)
            · ((try dsimp only); (repeat' apply And.intro); all_goals ((repeat (first | (with_reducible refine cell_drew ?_) | (with_reducible refine cell_drewN _ ?_) | ((with_reducible refine cell_alloc ?_ ?_); · first | omega | (simp; done) | (simp; omega) | assumption) | ((with_reducible refine cell_set ?_ ?_); · first | (intro e; injection e; omega) | (intro e; simp at e; done) | (intro e; simp at e; omega)))); first | assumption | (simp; done)))
            clear hK K
            (try simp only [Act.put, List.setIfInBounds_toArray, List.set_cons_zero, List.set_cons_succ])
            refine wpAnyH_done (by kernel_rfl) ?_ _
            have P := Lib.hid (show (w5.setCell ⟨w2.heap.size, 0, none⟩ (.slice A5 (k + 1) c5)).cell? ⟨w2.heap.size, 0, none⟩ = some (.slice A5 (k + 1) c5) ∧ (w5.setCell ⟨w2.heap.size, 0, none⟩ (.slice A5 (k + 1) c5)).frozen? ⟨w2.heap.size, 0, none⟩ = false ∧ (w5.setCell ⟨w2.heap.size, 0, none⟩ (.slice A5 (k + 1) c5)).ownsRow (w2.heap.size + 1) 25 3 (.slice A5 (k + 1) c5) (k + 1) (boxCells (mdK l sd (k + 1))) ∧ BoxF (w5.setCell ⟨w2.heap.size, 0, none⟩ (.slice A5 (k + 1) c5)) w1.heap.size f ∧ TM KK w2.heap.size (w5.setCell ⟨w2.heap.size, 0, none⟩ (.slice A5 (k + 1) c5)) h0 ∧ Chg KK w2 (w5.setCell ⟨w2.heap.size, 0, none⟩ (.slice A5 (k + 1) c5)) ∧ w2.heap.size < (w5.setCell ⟨w2.heap.size, 0, none⟩ (.slice A5 (k + 1) c5)).heap.size from ⟨World.cell?_setCell_same _ _ _ m5, by simpa [go_sem] using g5, own_setO (by rw [HMD.out, boxCells_append]; exact hown') _ (fun e => by have := (hown'.lt _ e).1; omega), own_setO hx5 _ (by simp [Value.ownBlock]; omega), (hm4.grown hg5 (fun q hq => by have := hrow q hq; omega)).set _ (Nat.le_refl _), ((HCH.out.trans hch4).of_row hg5 (fun q hq => by have := hrow q hq; omega)).set _ _ _ (Nat.le_refl _), by simp; omega⟩)
            clear m4 g4 own4 hx4 x0 x1 x2 x3 x4 x5 hown' hgrow hrow hg5 m5 g5 hx5 v0 v1 v2 v3 v4 v5 hm4 hch4
            go_wp2
            go_roundw
            case rel => exact ⟨k + 1, A5, c5, by omega, by go_num, by rw [HZK.out], P.out⟩
            case measure => simp [intOf]; omega
          ·
            go_simp
            refine hK.out _ _ ?_ (fun hHeld => ?_)
            · ((try dsimp only); (repeat' apply And.intro); all_goals ((repeat (first | (with_reducible refine cell_drew ?_) | (with_reducible refine cell_drewN _ ?_) | ((with_reducible refine cell_alloc ?_ ?_); · first | omega | (simp; done) | (simp; omega) | assumption) | ((with_reducible refine cell_set ?_ ?_); · first | (intro e; injection e; omega) | (intro e; simp at e; done) | (intro e; simp at e; omega)))); first | assumption | (simp; done)))
            clear hK K
            (try simp only [Act.put, List.setIfInBounds_toArray, List.set_cons_zero, List.set_cons_succ])
            refine wpAnyH_ready (rs := [1]) (by kernel_rfl) (by simp) ?_
            refine AllReadyH.cons rfl (fun K hK => ?_) (AllReadyH.nil)
            go_simp
            refine hK.out _ _ ?_ (fun hHeld => ?_)
            · ((try dsimp only); (repeat' apply And.intro); all_goals ((repeat (first | (with_reducible refine cell_drew ?_) | (with_reducible refine cell_drewN _ ?_) | ((with_reducible refine cell_alloc ?_ ?_); · first | omega | (simp; done) | (simp; omega) | assumption) | ((with_reducible refine cell_set ?_ ?_); · first | (intro e; injection e; omega) | (intro e; simp at e; done) | (intro e; simp at e; omega)))); first | assumption | (simp; done)))
            clear hK K
            (try simp only [Act.put, List.setIfInBounds_toArray, List.set_cons_zero, List.set_cons_succ])
            refine wpAnyH_ready (rs := [9]) (by kernel_rfl) (by simp) ?_
            refine AllReadyH.cons rfl (fun K hK => ?_) AllReadyH.nil
            refine step_append_own rfl (.tmp 48) (.tmp 55) 33 rfl (w2.heap.size + 1) 25 i0 (bx3 0 0 0) 3 24 Try.underlying33 hi hz0 hi1 hi2 rfl (by decide) _ _ _ rfl (own_alloc own4 (.cells #[.int .i64 kd, .int .i64 av, .int .i64 tv] 25)) ⟨w4.heap.size, 0, none⟩ 1 1 (boxCells [(kd, av, tv)]) rfl rfl (new3 w4 25 kd av tv) (by intro u hu; simp [boxCells] at hu; rcases hu with rfl | rfl | rfl <;> rfl) hc3 hc4 (by simp; omega) ?_; intro v' w5 hown' hgrow _; obtain ⟨A5, c5, rfl⟩ := own_slice hown'; have hrow : ∀ q, (Value.slice A' k c').ownBlock = some q → w2.heap.size + 1 ≤ q := fun q hq => (HOW.out.lt q hq).1; have hg5 := gb_trans (World.grownBy_alloc w4 (.cells #[.int .i64 kd, .int .i64 av, .int .i64 tv] 25) (Value.slice A' k c').ownBlock) hgrow; have s5 := hg5.size; have m5 : w5.cell? ⟨w2.heap.size, 0, none⟩ = some (.slice A' k c') := (World.cell?_of_block (hg5.block w2.heap.size (by omega) (fun e => by have := hrow _ e.symm; omega))).trans m4; have g5 : w5.frozen? ⟨w2.heap.size, 0, none⟩ = false := (World.frozen?_of_block (a := ⟨w2.heap.size, 0, none⟩) (hg5.block w2.heap.size (by omega) (fun e => by have := hrow _ e.symm; omega))).trans g4; have hx5 : BoxF w5 w1.heap.size f := hx4.grownO hg5 (fun e => by have := hrow _ e.symm; omega); obtain ⟨v0, v1, v2, v3, v4, v5⟩ := hx5.cells
            refine hK.out _ _ ?_ (fun hHeld => ?_)
            · ((try dsimp only); (repeat' apply And.intro); all_goals ((repeat (first | (with_reducible refine cell_drew ?_) | (with_reducible refine cell_drewN _ ?_) | ((with_reducible refine cell_alloc ?_ ?_); · first | omega | (simp; done) | (simp; omega) | assumption) | ((with_reducible refine cell_set ?_ ?_); · first | (intro e; injection e; omega) | (intro e; simp at e; done) | (intro e; simp at e; omega)))); first | assumption | (simp; done)))
            clear hK K
            (try simp only [Act.put, List.setIfInBounds_toArray, List.set_cons_zero, List.set_cons_succ])
            refine reg_on (i := 10) (d := 57) (v := ?rv14) rfl rfl (by kernel_rfl) (by kernel_rfl) (by kernel_rfl) (fun _ _ _ h => h) (by rfl) ?ry14 (by assumption) ?rr14
            case ry14 => (intro wz hSw; (try dsimp only at hSw); go_simp; try with_reducible rfl)
            (try simp only [Act.put, List.setIfInBounds_toArray, List.set_cons_zero, List.set_cons_succ])
            refine wpAnyH_ready (rs := [11]) (by kernel_rfl) (by simp) ?_
            refine AllReadyH.cons rfl (fun K hK => ?_) AllReadyH.nil
            go_simp
            refine hK.out _ _ ?_ (fun hHeld => ?_)
            · ((try dsimp only); (repeat' apply And.intro); all_goals ((repeat (first | (with_reducible refine cell_drew ?_) | (with_reducible refine cell_drewN _ ?_) | ((with_reducible refine cell_alloc ?_ ?_); · first | omega | (simp; done) | (simp; omega) | assumption) | ((with_reducible refine cell_set ?_ ?_); · first | (intro e; injection e; omega) | (intro e; simp at e; done) | (intro e; simp at e; omega)))); first | assumption | (simp; done)))
            clear hK K
            (try simp only [Act.put, List.setIfInBounds_toArray, List.set_cons_zero, List.set_cons_succ])
            refine wpAnyH_done (by kernel_rfl) ?_ _
            have P := Lib.hid (show (w5.setCell ⟨w2.heap.size, 0, none⟩ (.slice A5 (k + 1) c5)).cell? ⟨w2.heap.size, 0, none⟩ = some (.slice A5 (k + 1) c5) ∧ (w5.setCell ⟨w2.heap.size, 0, none⟩ (.slice A5 (k + 1) c5)).frozen? ⟨w2.heap.size, 0, none⟩ = false ∧ (w5.setCell ⟨w2.heap.size, 0, none⟩ (.slice A5 (k + 1) c5)).ownsRow (w2.heap.size + 1) 25 3 (.slice A5 (k + 1) c5) (k + 1) (boxCells (mdK l sd (k + 1))) ∧ BoxF (w5.setCell ⟨w2.heap.size, 0, none⟩ (.slice A5 (k + 1) c5)) w1.heap.size f ∧ TM KK w2.heap.size (w5.setCell ⟨w2.heap.size, 0, none⟩ (.slice A5 (k + 1) c5)) h0 ∧ Chg KK w2 (w5.setCell ⟨w2.heap.size, 0, none⟩ (.slice A5 (k + 1) c5)) ∧ w2.heap.size < (w5.setCell ⟨w2.heap.size, 0, none⟩ (.slice A5 (k + 1) c5)).heap.size from ⟨World.cell?_setCell_same _ _ _ m5, by simpa [go_sem] using g5, own_setO (by rw [HMD.out, boxCells_append]; exact hown') _ (fun e => by have := (hown'.lt _ e).1; omega), own_setO hx5 _ (by simp [Value.ownBlock]; omega), (hm4.grown hg5 (fun q hq => by have := hrow q hq; omega)).set _ (Nat.le_refl _), ((HCH.out.trans hch4).of_row hg5 (fun q hq => by have := hrow q hq; omega)).set _ _ _ (Nat.le_refl _), by simp; omega⟩)
            clear m4 g4 own4 hx4 x0 x1 x2 x3 x4 x5 hown' hgrow hrow hg5 m5 g5 hx5 v0 v1 v2 v3 v4 v5 hm4 hch4
            go_wp2
            go_roundw
            case rel => exact ⟨k + 1, A5, c5, by omega, by go_num, by rw [HZK.out], P.out⟩
            case measure => simp [intOf]; omega
      · have hk1 : k = cn := by omega
        subst hk1
        have dr : wr.cell? ⟨w.heap.size, 0, none⟩ = some (.slice none 0 0) := hch.cell HDR.out (fun e => by have := HK2.out _ e; simp at this; omega)
        have fr : wr.frozen? ⟨w.heap.size, 0, none⟩ = false := (World.frozen?_of_block (hch.block _ (by show w.heap.size < w2.heap.size; omega) (fun e => by have := HK2.out _ e; simp at this; omega))).trans HFR.out
        have hbF := Chg.below hch HB2.out (fun i hi => by have := HK2.out i hi; omega)
        have HO := Lib.hid (own_setO (b := w.heap.size) (o := 0) hown (.slice A' k c') (fun e => by have := (hown.lt _ e).1; omega))
        have HOB := Lib.hid (own_base HO.out (show w.heap.size ≤ w2.heap.size + 1 by omega))
        have HBF := Lib.hid hbF
        clear hown hm hch hbF hx
        go_wp2
        refine bodyPost_ret (v := .tuple #[puzV A' k c', .bool true]) (by simp [results, Try.results60, go_sem, dr]) rfl ⟨A', k, c', rfl, by rw [HLR.out]; exact HOB.out, ?_⟩
        exact bset (p := ⟨w.heap.size, 0, none⟩) (by simp) _ HBF.out
end Go.Proofs.Ytghlgmbekgfmnaa
