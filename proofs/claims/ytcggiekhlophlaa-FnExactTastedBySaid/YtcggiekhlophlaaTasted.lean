/-
  Contracts: TastedBy of the program and of the model. Conditions: none.
-/
import Derived.Test.YtcggiekhlophlaaCodeF
namespace Go.Proofs.Ytcggiekhlophlaa
open Go.RowKit
set_option linter.unusedVariables false
set_option linter.unusedSimpArgs false

/-- the first k pralines that are tasted -/
def tbL (B t a r k : Nat) : List Int := ((List.range k).filter fun (x : Nat) => decide (dig x B t a = r)).map fun (x : Nat) => (x : Int)
theorem length_tbL (B t a r k : Nat) : (tbL B t a r k).length ≤ k := by
  unfold tbL
  rw [List.length_map]
  exact Nat.le_trans (List.length_filter_le _ _) (by simp)
theorem tbL_yes {B t a r k : Nat} (h : dig k B t a = r) : tbL B t a r (k + 1) = tbL B t a r k ++ [(k : Int)] := by
  simp [tbL, List.range_succ, h]
theorem tbL_no {B t a r k : Nat} (h : dig k B t a ≠ r) : tbL B t a r (k + 1) = tbL B t a r k := by
  simp [tbL, List.range_succ, h]
def tbB (p t r a b : Int) : Bool := beB p t r && (decide (p ≤ 1000) && (inB a 0 (t - 1) && inB b 1 r))
def tbR (p t r a b : Int) : List Int := if tbB p t r a b then tbL (r.toNat + 1) t.toNat a.toNat b.toNat p.toNat else []
theorem length_tbR (p t r a b : Int) : (tbR p t r a b).length ≤ 1000 := by
  unfold tbR
  split
  · rename_i h
    simp only [tbB, Bool.and_eq_true, decide_eq_true_eq] at h
    have := length_tbL (r.toNat + 1) t.toNat a.toNat b.toNat p.toNat
    omega
  · simp
theorem tbR_no {p t r a b : Int} (h : tbB p t r a b = false) : tbR p t r a b = [] := by simp [tbR, h]


set_option maxRecDepth 100000 in
set_option maxHeartbeats 4000000 in
theorem tasted_any (p t r a b : Int) (w : World) :
    Calls Try.prog 30 #[.int .i64 p, .int .i64 t, .int .i64 r, .int .i64 a, .int .i64 b] w fun e w' => ∃ A' n' c', e = .returned (.tuple #[.slice A' n' c', .bool (tbB p t r a b)]) ∧ w'.ownsRow w.heap.size 3 1 (.slice A' n' c') n' (intCells (tbR p t r a b)) ∧ Below w.heap.size w w' := by
  cases h : beB p t r
  · have hB : tbB p t r a b = false := by simp [tbB, h]
    rw [tbR_no hB, hB]
    go_enter Try.func30, Try.ntmps30
    go_wp2_with fail
    refine (canBe_any _ _ _ _).mono ?_; rintro e w1 ⟨rfl, hb1⟩; have s1 := hb1.size; obtain ⟨hc1, hf1⟩ := bcell hb1
    rw [h]
    go_wp2
    go_ret2
    exact ⟨none, 0, 0, rfl, World.ownsRow_nil _ _ _ _, by (repeat (first | (with_reducible exact Below.refl _ _) | (with_reducible assumption) | (with_reducible refine Below.drew ?_) | ((with_reducible refine balloc ?_ _ ?_); · (first | (simp; done) | (simp; omega) | omega)) | ((with_reducible refine bset ?_ _ ?_); · (first | (simp; done) | (simp; omega) | omega)) | (with_reducible refine bdrewN _ ?_) | ((with_reducible refine bcall ?_ (by assumption) ?_); · (first | (simp; done) | (simp; omega) | omega))))⟩
  · obtain ⟨P, T, R, rfl, rfl, rfl, p1, p2, t1, t2, r1, r2, pr⟩ := beB_nat h
    clear pr
    by_cases h2 : (P : Int) > 1000
    · have hB : tbB (P : Int) (T : Int) (R : Int) a b = false := by simp [tbB]; omega
      rw [tbR_no hB, hB]
      go_enter Try.func30, Try.ntmps30
      go_wp2_with fail
      refine (canBe_any _ _ _ _).mono ?_; rintro e w1 ⟨rfl, hb1⟩; have s1 := hb1.size; obtain ⟨hc1, hf1⟩ := bcell hb1
      rw [h]
      go_wp2
      go_ret2
      exact ⟨none, 0, 0, rfl, World.ownsRow_nil _ _ _ _, by (repeat (first | (with_reducible exact Below.refl _ _) | (with_reducible assumption) | (with_reducible refine Below.drew ?_) | ((with_reducible refine balloc ?_ _ ?_); · (first | (simp; done) | (simp; omega) | omega)) | ((with_reducible refine bset ?_ _ ?_); · (first | (simp; done) | (simp; omega) | omega)) | (with_reducible refine bdrewN _ ?_) | ((with_reducible refine bcall ?_ (by assumption) ?_); · (first | (simp; done) | (simp; omega) | omega))))⟩
    · by_cases h3 : a < 0
      · have hB : tbB (P : Int) (T : Int) (R : Int) a b = false := by simp [tbB, inB]; omega
        rw [tbR_no hB, hB]
        go_enter Try.func30, Try.ntmps30
        go_wp2_with fail
        refine (canBe_any _ _ _ _).mono ?_; rintro e w1 ⟨rfl, hb1⟩; have s1 := hb1.size; obtain ⟨hc1, hf1⟩ := bcell hb1
        rw [h]
        go_wp2
        go_ret2
        exact ⟨none, 0, 0, rfl, World.ownsRow_nil _ _ _ _, by (repeat (first | (with_reducible exact Below.refl _ _) | (with_reducible assumption) | (with_reducible refine Below.drew ?_) | ((with_reducible refine balloc ?_ _ ?_); · (first | (simp; done) | (simp; omega) | omega)) | ((with_reducible refine bset ?_ _ ?_); · (first | (simp; done) | (simp; omega) | omega)) | (with_reducible refine bdrewN _ ?_) | ((with_reducible refine bcall ?_ (by assumption) ?_); · (first | (simp; done) | (simp; omega) | omega))))⟩
      · by_cases h3' : a ≥ (T : Int)
        · have hB : tbB (P : Int) (T : Int) (R : Int) a b = false := by simp [tbB, inB]; omega
          rw [tbR_no hB, hB]
          go_enter Try.func30, Try.ntmps30
          go_wp2_with fail
          refine (canBe_any _ _ _ _).mono ?_; rintro e w1 ⟨rfl, hb1⟩; have s1 := hb1.size; obtain ⟨hc1, hf1⟩ := bcell hb1
          rw [h]
          go_wp2
          go_ret2
          exact ⟨none, 0, 0, rfl, World.ownsRow_nil _ _ _ _, by (repeat (first | (with_reducible exact Below.refl _ _) | (with_reducible assumption) | (with_reducible refine Below.drew ?_) | ((with_reducible refine balloc ?_ _ ?_); · (first | (simp; done) | (simp; omega) | omega)) | ((with_reducible refine bset ?_ _ ?_); · (first | (simp; done) | (simp; omega) | omega)) | (with_reducible refine bdrewN _ ?_) | ((with_reducible refine bcall ?_ (by assumption) ?_); · (first | (simp; done) | (simp; omega) | omega))))⟩
        · obtain ⟨a, rfl⟩ : ∃ q : Nat, a = q := ⟨a.toNat, by omega⟩
          cases h4 : inB b 1 (R : Int)
          · have hB : tbB (P : Int) (T : Int) (R : Int) a b = false := by simp [tbB, h4]
            rw [tbR_no hB, hB]
            go_enter Try.func30, Try.ntmps30
            go_wp2_with fail
            refine (canBe_any _ _ _ _).mono ?_; rintro e w1 ⟨rfl, hb1⟩; have s1 := hb1.size; obtain ⟨hc1, hf1⟩ := bcell hb1
            rw [h]
            go_wp2_with (go_at_call 46; refine (upTo_any _ _ _).mono ?_; rintro e wx ⟨rfl, rfl⟩; rw [h4])
            go_ret2
            exact ⟨none, 0, 0, rfl, World.ownsRow_nil _ _ _ _, by (repeat (first | (with_reducible exact Below.refl _ _) | (with_reducible assumption) | (with_reducible refine Below.drew ?_) | ((with_reducible refine balloc ?_ _ ?_); · (first | (simp; done) | (simp; omega) | omega)) | ((with_reducible refine bset ?_ _ ?_); · (first | (simp; done) | (simp; omega) | omega)) | (with_reducible refine bdrewN _ ?_) | ((with_reducible refine bcall ?_ (by assumption) ?_); · (first | (simp; done) | (simp; omega) | omega))))⟩
          · have hB : tbB (P : Int) (T : Int) (R : Int) a b = true := by (have h3t : inB (a : Int) 0 ((T : Int) - 1) = true := by (simp [inB]; omega)); simp [tbB, h, h4, h3t]; omega
            obtain ⟨b, rfl, b1, b2⟩ := inB_nat h4
            obtain ⟨i0, hi, hz0, hz1, hz2⟩ := info_parts int_info
            rw [hB, show tbR (P : Int) (T : Int) (R : Int) (a : Int) (b : Int) = tbL (R + 1) T a b P by simp [tbR, hB]]
            have hP : P ≤ 1000 := by omega
            have haT : a < T := by omega
            have hd1 : decide ((P : Int) > 1000) = false := by simp; omega
            have hd2 : decide ((a : Int) ≥ (T : Int)) = false := by simp; omega
            have hd6 : decide (T ≤ a) = false := by simp; omega
            have hd7 : decide ((a : Int) < 0) = false := by simp
            have hd3 : ¬ (a : Int) ≥ (T : Int) := by omega
            have hd4 : ¬ (P : Int) > 1000 := by omega
            have hd5 : ¬ (a : Int) < 0 := by omega
            clear h2 h3 h3' hB p2
            go_enter Try.func30, Try.ntmps30
            go_wp2_with fail
            refine (canBe_any _ _ _ _).mono ?_; rintro e w1 ⟨rfl, hb1⟩; have s1 := hb1.size; obtain ⟨hc1, hf1⟩ := bcell hb1
            rw [h]
            go_wp2_with (go_at_call 46; refine (upTo_any _ _ _).mono ?_; rintro e wx ⟨rfl, rfl⟩; rw [h4])
            have HB1 := Lib.hid hb1
            clear hb1 hc1 hf1
            go_loopw [12, 13, 37] (fun v _ i wr => ∃ (k m : Nat) (A' : Option Addr) (c' : Nat), k ≤ P ∧ i = .int .i64 k ∧ v = .slice A' m c' ∧ wr.ownsRow w1.heap.size 3 1 (.slice A' m c') m (intCells (tbL (R + 1) T a b k)) ∧ Below w1.heap.size w1 wr) (fun _ _ i _ => P - (intOf i).toNat)
            case atStart => exact ⟨0, 0, none, 0, Nat.zero_le _, rfl, rfl, World.ownsRow_nil _ _ _ _, Below.refl _ _⟩
            case round =>
              obtain ⟨k, m, A', c', hk, rfl, rfl, hown, hB⟩ := hrel
              have sB := hB.size
              by_cases hlt : k < P
              · go_wp2_with fail
                refine (codeOf_any k T R (by omega) t2 t1 (by omega) _).mono ?_; rintro e w2 ⟨g, rfl, own2, hb2⟩
                have s2 := hb2.size
                have hml : m ≤ 1000 := by have := hown.1; rw [length_intCells] at this; have := length_tbL (R + 1) T a b k; omega
                have hown2 := own_later hown hb2 (Nat.le_refl _)
                have hB2 : Below w1.heap.size w1 w2 := hB.trans (hb2.mono sB)
                have a0 := own2.cellAt a (by omega)
                have lcs : (intCells (codeL k (R + 1) T)).length = T := by rw [length_intCells, length_codeL]
                rw [List.getElem?_eq_getElem (by omega)] at a0
                simp only [intCells, List.getElem_map] at a0
                rw [codeL_at haT] at a0
                have sg := own2.lt g rfl
                by_cases hd : dig k (R + 1) T a = b
                · have HE := Lib.hid (tbL_yes hd)
                  have hbi : (((dig k (R + 1) T a : Nat) : Int) == (b : Int)) = true := by simp; omega
                  generalize dig k (R + 1) T a = d at *
                  have HOW := Lib.hid hown2
                  have HBB := Lib.hid hB2
                  have hc3 : m + 1 ≤ maxLen := by simp only [maxLen]; omega
                  have hw12 : w1.heap.size ≤ w2.heap.size := hB2.size
                  clear hown hB own2 hb2 lcs hd hown2 hB2
                  go_wp2_with (at_builtin; refine wpList_append_own _ rfl (.tmp 49) (.tmp 51) 25 rfl w1.heap.size 3 i0 (.int .i64 0) 1 8 Try.underlying25 hi hz0 hz1 hz2 rfl (by decide) _ _ _ rfl (HOW.out.alloc _) ⟨w2.heap.size, 0, none⟩ 1 1 [.int .i64 (k : Int)] rfl rfl (new1 _ _ _) (int_oneCell [_]) hc3 (by omega) (Nat.le_trans hw12 (show w2.heap.size ≤ _ by simp)) ?_)
                  intro v' w3 hown' hgrow _
                  have hb3 := gb_new (Nat.le_refl _) (HBB.out.alloc (by omega) (.cells #[.int .i64 (k : Int)] 3)) hgrow (fun g hg => (HOW.out.lt g hg).1)
                  obtain ⟨A2, c2', rfl⟩ := own_slice hown'
                  have HO3 := Lib.hid hown'
                  have HB3 := Lib.hid hb3
                  clear hgrow hown' hc3 hb3 HOW HBB
                  go_wp2
                  go_roundw
                  case rel => exact ⟨k + 1, m + 1, A2, c2', by omega, by go_num, rfl, by rw [HE.out, intCells_append]; exact HO3.out, HB3.out⟩
                  case measure => simp [intOf]; omega
                · have HE := Lib.hid (tbL_no hd)
                  have hbi : (((dig k (R + 1) T a : Nat) : Int) == (b : Int)) = false := by simp; omega
                  generalize dig k (R + 1) T a = d at *
                  have HOW := Lib.hid hown2
                  have HBB := Lib.hid hB2
                  clear hown hB own2 hb2 lcs hd hown2 hB2
                  go_wp2
                  go_roundw
                  case rel => exact ⟨k + 1, m, A', c', by omega, by go_num, rfl, by rw [HE.out]; exact HOW.out, HBB.out⟩
                  case measure => simp [intOf]; omega
              · have : k = P := by omega
                subst this
                have HOW := Lib.hid hown
                have HBB := Lib.hid hB
                clear hown hB
                go_wp2
                go_ret2
                exact ⟨A', m, c', rfl, own_base HOW.out s1, HB1.out.trans (HBB.out.mono s1)⟩

set_option maxRecDepth 100000 in
set_option maxHeartbeats 4000000 in
theorem sTasted_any (p t r a b : Int) (w1 : World) :
    Calls Try.prog 29 #[.int .i64 p, .int .i64 t, .int .i64 r, .int .i64 a, .int .i64 b] w1 fun e w' => ∃ A' n' c', e = .returned (.tuple #[.slice A' n' c', .bool (tbB p t r a b)]) ∧ w'.ownsRow w1.heap.size 3 1 (.slice A' n' c') n' (intCells (tbR p t r a b)) ∧ Below w1.heap.size w1 w' := by
  cases h : beB p t r
  · have hB : tbB p t r a b = false := by simp [tbB, h]
    rw [tbR_no hB, hB]
    go_enter Try.func29, Try.ntmps29
    go_wp2_with (go_at_call 51; refine (bxEnough_any _ _ _ _).mono ?_; rintro e wx ⟨rfl, rfl⟩; rw [h])
    go_ret2
    exact ⟨none, 0, 0, rfl, World.ownsRow_nil _ _ _ _, Below.refl _ _⟩
  · obtain ⟨P, T, R, rfl, rfl, rfl, p1, p2, t1, t2, r1, r2, pr⟩ := beB_nat h
    clear pr
    by_cases h2 : (P : Int) > 1000
    · have hB : tbB (P : Int) (T : Int) (R : Int) a b = false := by simp [tbB]; omega
      rw [tbR_no hB, hB]
      go_enter Try.func29, Try.ntmps29
      go_wp2_with (go_at_call 51; refine (bxEnough_any _ _ _ _).mono ?_; rintro e wx ⟨rfl, rfl⟩; rw [h])
      go_ret2
      exact ⟨none, 0, 0, rfl, World.ownsRow_nil _ _ _ _, Below.refl _ _⟩
    · cases h3 : inB a 0 ((T : Int) - 1)
      · have hB : tbB (P : Int) (T : Int) (R : Int) a b = false := by simp [tbB, h3]
        rw [tbR_no hB, hB]
        go_enter Try.func29, Try.ntmps29
        go_wp2_with first | (go_at_call 51; refine (bxEnough_any _ _ _ _).mono ?_; rintro e wx ⟨rfl, rfl⟩; rw [h]) | (go_at_call 44; refine (l1In_any _ _ _ _).mono ?_; rintro e wx ⟨rfl, rfl⟩; rw [h3])
        go_ret2
        exact ⟨none, 0, 0, rfl, World.ownsRow_nil _ _ _ _, Below.refl _ _⟩
      · have h3' := inB_true h3
        obtain ⟨a, rfl⟩ : ∃ q : Nat, a = q := ⟨a.toNat, by omega⟩
        cases h4 : inB b 1 (R : Int)
        · have hB : tbB (P : Int) (T : Int) (R : Int) a b = false := by simp [tbB, h4]
          rw [tbR_no hB, hB]
          go_enter Try.func29, Try.ntmps29
          go_wp2_with first | (go_at_call 51; refine (bxEnough_any _ _ _ _).mono ?_; rintro e wx ⟨rfl, rfl⟩; rw [h]) | (go_at_call 44; refine (l1In_any _ _ _ _).mono ?_; rintro e wx ⟨rfl, rfl⟩; first | rw [h3] | rw [h4])
          go_ret2
          exact ⟨none, 0, 0, rfl, World.ownsRow_nil _ _ _ _, Below.refl _ _⟩
        · have hB : tbB (P : Int) (T : Int) (R : Int) a b = true := by simp [tbB, h, h3, h4]; omega
          obtain ⟨b, rfl, b1, b2⟩ := inB_nat h4
          obtain ⟨i0, hi, hz0, hz1, hz2⟩ := info_parts int_info
          rw [hB, show tbR (P : Int) (T : Int) (R : Int) (a : Int) (b : Int) = tbL (R + 1) T a b P by simp [tbR, hB]]
          have hP : P ≤ 1000 := by omega
          have haT : a < T := by omega
          clear h2 h3' hB p2
          go_enter Try.func29, Try.ntmps29
          go_wp2_with first | (go_at_call 51; refine (bxEnough_any _ _ _ _).mono ?_; rintro e wx ⟨rfl, rfl⟩; rw [h]) | (go_at_call 44; refine (l1In_any _ _ _ _).mono ?_; rintro e wx ⟨rfl, rfl⟩; first | rw [h3] | rw [h4])
          go_loopw [12, 13] (fun v i wr => ∃ (k m : Nat) (A' : Option Addr) (c' : Nat), k ≤ P ∧ i = .int .i64 k ∧ v = .slice A' m c' ∧ wr.ownsRow w1.heap.size 3 1 (.slice A' m c') m (intCells (tbL (R + 1) T a b k)) ∧ Below w1.heap.size w1 wr) (fun _ i _ => P - (intOf i).toNat)
          case atStart => exact ⟨0, 0, none, 0, Nat.zero_le _, rfl, rfl, World.ownsRow_nil _ _ _ _, Below.refl _ _⟩
          case round =>
            obtain ⟨k, m, A', c', hk, rfl, rfl, hown, hB⟩ := hrel
            have sB := hB.size
            by_cases hlt : k < P
            · go_wp2_with fail
              refine (bxCode_any k T R (by omega) t2 t1 (by omega) _).mono ?_; rintro e w2 ⟨g, rfl, own2, hb2⟩
              have s2 := hb2.size
              have hml : m ≤ 1000 := by have := hown.1; rw [length_intCells] at this; have := length_tbL (R + 1) T a b k; omega
              have hown2 := own_later hown hb2 (Nat.le_refl _)
              have hB2 : Below w1.heap.size w1 w2 := hB.trans (hb2.mono sB)
              have a0 := own2.cellAt a (by omega)
              have lcs : (intCells (codeL k (R + 1) T)).length = T := by rw [length_intCells, length_codeL]
              rw [List.getElem?_eq_getElem (by omega)] at a0
              simp only [intCells, List.getElem_map] at a0
              rw [codeL_at haT] at a0
              have sg := own2.lt g rfl
              by_cases hd : dig k (R + 1) T a = b
              · have HE := Lib.hid (tbL_yes hd)
                have hbi : (((dig k (R + 1) T a : Nat) : Int) == (b : Int)) = true := by simp; omega
                generalize dig k (R + 1) T a = d at *
                have HOW := Lib.hid hown2
                have HBB := Lib.hid hB2
                have hc3 : m + 1 ≤ maxLen := by simp only [maxLen]; omega
                have hw12 : w1.heap.size ≤ w2.heap.size := hB2.size
                clear hown hB own2 hb2 lcs hd hown2 hB2
                go_wp2_with (at_builtin; refine wpList_append_own _ rfl (.tmp 50) (.tmp 52) 25 rfl w1.heap.size 3 i0 (.int .i64 0) 1 8 Try.underlying25 hi hz0 hz1 hz2 rfl (by decide) _ _ _ rfl (HOW.out.alloc _) ⟨w2.heap.size, 0, none⟩ 1 1 [.int .i64 (k : Int)] rfl rfl (new1 _ _ _) (int_oneCell [_]) hc3 (by omega) (Nat.le_trans hw12 (show w2.heap.size ≤ _ by simp)) ?_)
                intro v' w3 hown' hgrow _
                have hb3 := gb_new (Nat.le_refl _) (HBB.out.alloc (by omega) (.cells #[.int .i64 (k : Int)] 3)) hgrow (fun g hg => (HOW.out.lt g hg).1)
                obtain ⟨A2, c2', rfl⟩ := own_slice hown'
                have HO3 := Lib.hid hown'
                have HB3 := Lib.hid hb3
                clear hgrow hown' hc3 hb3 HOW HBB
                go_wp2
                go_roundw
                case rel => exact ⟨k + 1, m + 1, A2, c2', by omega, by go_num, rfl, by rw [HE.out, intCells_append]; exact HO3.out, HB3.out⟩
                case measure => simp [intOf]; omega
              · have HE := Lib.hid (tbL_no hd)
                have hbi : (((dig k (R + 1) T a : Nat) : Int) == (b : Int)) = false := by simp; omega
                generalize dig k (R + 1) T a = d at *
                have HOW := Lib.hid hown2
                have HBB := Lib.hid hB2
                clear hown hB own2 hb2 lcs hd hown2 hB2
                go_wp2
                go_roundw
                case rel => exact ⟨k + 1, m, A', c', by omega, by go_num, rfl, by rw [HE.out]; exact HOW.out, HBB.out⟩
                case measure => simp [intOf]; omega
            · have : k = P := by omega
              subst this
              have HOW := Lib.hid hown
              have HBB := Lib.hid hB
              clear hown hB
              go_wp2
              go_ret2
              exact ⟨A', m, c', rfl, HOW.out, HBB.out⟩

end Go.Proofs.Ytcggiekhlophlaa
