/-
  Contract: the model's fewest pieces of a part, with its table.
-/
import Derived.Test.YtfbmnaepobhnkaaFewW
import Derived.Test.YtfbmnaepobhnkaaMinMax
import Derived.Test.YtfbmnaepobhnkaaSum
namespace Go.Proofs.Ytfbmnaepobhnkaa
open Go.RowKit
set_option linter.unusedVariables false

def atF (x y X Y : Nat) : Nat := ((x * 9 + y) * 9 + X) * 9 + Y
theorem atF_lt {x y X Y : Nat} (hx : x ≤ 8) (hy : y ≤ 8) (hX : X ≤ 8) (hY : Y ≤ 8) : atF x y X Y < 6561 := by unfold atF; omega
theorem atF_inj {x y X Y x' y' X' Y' : Nat} (hy : y ≤ 8) (hX : X ≤ 8) (hY : Y ≤ 8) (hy' : y' ≤ 8) (hX' : X' ≤ 8) (hY' : Y' ≤ 8) (h : atF x y X Y = atF x' y' X' Y') : x = x' ∧ y = y' ∧ X = X' ∧ Y = Y' := by unfold atF at h; omega
/-- the table: what it tells is right -/
def Told (ss : List ByteArray) (most : Int) (W n : Nat) (w0 w : World) (g : Nat) : Prop := ∃ L : List Value, w.ownsRow w0.heap.size 3 1 (.slice (some ⟨g, 0, none⟩) 6561 6561) 6561 L ∧ ∀ x y a b : Nat, 1 ≤ a → 1 ≤ b → x + a ≤ W → y + b ≤ n → ∃ v : Nat, L[atF x y (x + a) (y + b)]? = some (.int .i64 v) ∧ (v = 0 ∨ v = few ss most x y a b)
theorem Told.lt {ss : List ByteArray} {most : Int} {W n : Nat} {w0 w : World} {g : Nat} (h : Told ss most W n w0 w g) : w0.heap.size ≤ g ∧ g < w.heap.size := by
  obtain ⟨L, h1, _⟩ := h
  exact h1.lt g rfl
theorem Told.set {ss : List ByteArray} {most : Int} {W n : Nat} {w0 w : World} {g : Nat} (h : Told ss most W n w0 w g) (hW : W ≤ 8) (hn : n ≤ 8) {x y a b : Nat} (ha : 1 ≤ a) (hb : 1 ≤ b) (hx : x + a ≤ W) (hy : y + b ≤ n) :
    Told ss most W n w0 (w.setCell ⟨g, atF x y (x + a) (y + b), none⟩ (.int .i64 (few ss most x y a b : Nat))) g := by
  obtain ⟨L, h1, h2⟩ := h
  have hl : L.length = 6561 * 1 := h1.1
  refine ⟨_, (h1.stored (atF x y (x + a) (y + b)) _).1, fun x' y' a' b' q1 q2 q3 q4 => ?_⟩
  by_cases e : atF x y (x + a) (y + b) = atF x' y' (x' + a') (y' + b')
  · obtain ⟨e1, e2, e3, e4⟩ := atF_inj (by omega) (by omega) (by omega) (by omega) (by omega) (by omega) e
    subst e1 e2
    obtain rfl : a = a' := by omega
    obtain rfl : b = b' := by omega
    exact ⟨few ss most x y a b, by rw [List.getElem?_set_self (by have := atF_lt (x := x) (y := y) (X := x + a) (Y := y + b) (by omega) (by omega) (by omega) (by omega); omega)], .inr rfl⟩
  · obtain ⟨v, v1, v2⟩ := h2 x' y' a' b' q1 q2 q3 q4
    exact ⟨v, by rw [List.getElem?_set_ne e]; exact v1, v2⟩

set_option maxRecDepth 100000 in
set_option maxHeartbeats 4000000 in
theorem ntFew_any (A : Option Addr) (n c W g : Nat) (ss : List ByteArray) (most : Int) (w0 : World) (hr : Rd w0 1 A n (strCells ss)) (hb : NB ss W n) : ∀ (f x y a b : Nat) (px py pX pY : Int) (w : World), a + b ≤ f → px = x → py = y → pX = (x : Int) + a → pY = (y : Int) + b → 1 ≤ a → 1 ≤ b → x + a ≤ W → y + b ≤ n → Told ss most W n w0 w g → Below w0.heap.size w0 w →
    Calls Try.prog 42 #[.slice A n c, .int .i64 px, .int .i64 py, .int .i64 pX, .int .i64 pY, .int .i64 most, .slice (some ⟨g, 0, none⟩) 6561 6561] w fun e w' => e = .returned (.int .i64 (few ss most x y a b : Nat)) ∧ Told ss most W n w0 w' g ∧ Below w0.heap.size w0 w' := by
  intro f
  induction f with
  | zero => intro x y a b px py pX pY w hf _ _ _ _ ha hb2; omega
  | succ f ih =>
    intro x y a b px py pX pY w hf epx epy epX epY ha hb2 hx hy hT hB
    subst epx epy epX epY
    have IH := Lib.hid ih
    clear ih
    have hW8 := hb.w8
    have hn8 := hb.h8
    have hlt := hT.lt
    have hTL := hT
    obtain ⟨L, own, snd⟩ := hTL
    obtain ⟨v, hv, hvs⟩ := snd x y a b ha hb2 hx hy
    have hq6 := atF_lt (x := x) (y := y) (X := x + a) (Y := y + b) (by omega) (by omega) (by omega) (by omega)
    have c1 := (own.cellAt (atF x y (x + a) (y + b)) (by omega)).trans hv
    have hq : (((x : Int) * 9 + y) * 9 + ((x : Int) + a)) * 9 + ((y : Int) + b) = (atF x y (x + a) (y + b) : Nat) := by unfold atF; omega
    have HQ := Lib.hid hq
    have HT := Lib.hid hT
    have HB := Lib.hid hB
    have HST := Lib.hid (few_step ss most x y a b ha hb2)
    have hqi : ((atF x y (x + a) (y + b) : Nat) : Int) < 6561 := by omega
    have hSet := Lib.hid (fun (wz : World) (hz : Told ss most W n w0 wz g) => hz.set hW8 hn8 ha hb2 hx hy)
    have hOwnG := Lib.hid (fun (wz : World) (hz : Told ss most W n w0 wz g) => (show wz.frozen? ⟨g, atF x y (x + a) (y + b), none⟩ = false from by obtain ⟨L', o', _⟩ := hz; exact o'.frozenAt _))
    have hCell := Lib.hid (fun (wz : World) (hz : Told ss most W n w0 wz g) => (show ∃ v' : Nat, wz.cell? ⟨g, atF x y (x + a) (y + b), none⟩ = some (.int .i64 v') from by
      obtain ⟨L', o', s'⟩ := hz
      obtain ⟨v', hv', _⟩ := s' x y a b ha hb2 hx hy
      exact ⟨v', (o'.cellAt _ (by omega)).trans hv'⟩))
    have hg0 : w0.heap.size ≤ g := hlt.1
    clear hT hB snd hv hlt own
    by_cases hv0 : v = 0
    · subst hv0
      clear hvs
      have hab1 : 1 * 1 ≤ a * b := Nat.mul_le_mul ha hb2
      have hab2 : a * b ≤ 8 * 8 := Nat.mul_le_mul (by omega) (by omega)
      have hp : wrap64 (((x : Int) + a - x) * ((y : Int) + b - y)) = ((a * b : Nat) : Int) := by
        rw [show ((x : Int) + a - x) = a by omega, show ((y : Int) + b - y) = b by omega, ← Int.natCast_mul]
        generalize a * b = m at *
        exact IntWalk.wrap64_in _ (by omega)
      have habx : 2 ≤ a ∨ 2 ≤ b → 2 ≤ a * b := by
        rintro (h | h)
        · have := Nat.mul_le_mul h hb2; omega
        · have := Nat.mul_le_mul ha h; omega
      have HAB := Lib.hid habx
      clear habx
      have HF1 := Lib.hid (fun (k s : Nat) (h : k + 1 ≤ a) (h2 : 2 ≤ s) => downF_in (g := few ss most) (x := x) (y := y) (a := a) (b := b) (lo := 2) (Nat.le_refl _) (fun x' a' q1 q2 => few_ge ss most q1 hb2) k s h h2)
      have HF2 := Lib.hid (fun (k s : Nat) (h : k + 1 ≤ b) (h2 : 2 ≤ s) => acrF_in (g := few ss most) (x := x) (y := y) (a := a) (b := b) (lo := 2) (Nat.le_refl _) (fun y' b' q1 q2 => few_ge ss most ha q1) k s h h2)
      generalize hqq : atF x y (x + a) (y + b) = q at *
      go_enter Try.func42, Try.ntmps42
      go_wp2_with fail
      refine (ntSum_any _ _ _ W ss _ _ _ _ x y a b _ (hr.later HB.out (Nat.le_refl _)) hb rfl rfl rfl rfl hx hy).mono ?_; rintro e wx ⟨rfl, rfl⟩
      by_cases hm : ((rect ss x y a b : Nat) : Int) ≤ most
      · have hs1 : few ss most x y a b = 1 := by rw [HST.out]; exact if_pos hm
        have HS1 := Lib.hid hs1
        clear hs1 hqq
        go_wp2
        go_loop [16, 17] (fun d k => d = .int .i64 1 ∧ k = .int .i64 ((x : Int) + 1)) (fun _ _ => 0)
        case atStart => exact ⟨rfl, rfl⟩
        case round =>
          obtain ⟨rfl, rfl⟩ := hrel
          by_cases ha1 : 1 < a
          · have t1 : (x : Int) + 1 < (x : Int) + a := by omega
            have t2 : (1 : Int) < (a : Int) := by omega
            go_wp2
            go_loop [16, 18] (fun d k => d = .int .i64 1 ∧ k = .int .i64 ((y : Int) + 1)) (fun _ _ => 0)
            case atStart => exact ⟨rfl, rfl⟩
            case round =>
              obtain ⟨rfl, rfl⟩ := hrel
              by_cases hb1 : 1 < b
              · have t3 : (y : Int) + 1 < (y : Int) + b := by omega
                have t4 : (1 : Int) < (b : Int) := by omega
                obtain ⟨v', cv⟩ := hCell.out _ HT.out
                have fv := hOwnG.out _ HT.out
                have st := hSet.out _ HT.out
                rw [HS1.out] at st
                have ST := Lib.hid st
                clear st
                go_wp2
                go_ret
                exact ⟨by rw [HS1.out]; rfl, ST.out, HB.out.setCell hg0 _⟩
              · obtain rfl : b = 1 := by omega
                obtain ⟨v', cv⟩ := hCell.out _ HT.out
                have fv := hOwnG.out _ HT.out
                have st := hSet.out _ HT.out
                rw [HS1.out] at st
                have ST := Lib.hid st
                clear st
                go_wp2
                go_ret
                exact ⟨by rw [HS1.out]; rfl, ST.out, HB.out.setCell hg0 _⟩
          · obtain rfl : a = 1 := by omega
            go_wp2
            go_loop [16, 18] (fun d k => d = .int .i64 1 ∧ k = .int .i64 ((y : Int) + 1)) (fun _ _ => 0)
            case atStart => exact ⟨rfl, rfl⟩
            case round =>
              obtain ⟨rfl, rfl⟩ := hrel
              by_cases hb1 : 1 < b
              · have t3 : (y : Int) + 1 < (y : Int) + b := by omega
                have t4 : (1 : Int) < (b : Int) := by omega
                obtain ⟨v', cv⟩ := hCell.out _ HT.out
                have fv := hOwnG.out _ HT.out
                have st := hSet.out _ HT.out
                rw [HS1.out] at st
                have ST := Lib.hid st
                clear st
                go_wp2
                go_ret
                exact ⟨by rw [HS1.out]; rfl, ST.out, HB.out.setCell hg0 _⟩
              · obtain rfl : b = 1 := by omega
                obtain ⟨v', cv⟩ := hCell.out _ HT.out
                have fv := hOwnG.out _ HT.out
                have st := hSet.out _ HT.out
                rw [HS1.out] at st
                have ST := Lib.hid st
                clear st
                go_wp2
                go_ret
                exact ⟨by rw [HS1.out]; rfl, ST.out, HB.out.setCell hg0 _⟩
      · have hs1 : few ss most x y a b = brokenF (few ss most) x y a b := by rw [HST.out]; exact if_neg hm
        have hm' : most < ((rect ss x y a b : Nat) : Int) := by omega
        have HS1 := Lib.hid hs1
        clear hs1 hqq hm
        go_wp2
        clear c1 hq hp
        go_loopw [16, 17] (fun d k wr => ∃ j : Nat, j + 1 ≤ a ∧ k = .int .i64 ((x : Int) + 1 + j) ∧ d = .int .i64 (downF (few ss most) x y a b j (a * b) : Nat) ∧ Told ss most W n w0 wr g ∧ Below w0.heap.size w0 wr) (fun _ k _ => (x + a - intOf k).toNat)
        case atStart => exact ⟨0, ha, by simp, rfl, HT.out, HB.out⟩
        case round =>
          clear HT HB
          obtain ⟨j, hj, rfl, rfl, hT, hB⟩ := hrel
          have HT := Lib.hid hT
          have HB := Lib.hid hB
          clear hT hB
          by_cases hlt : j + 1 < a
          · have hd := HF1.out j (a * b) hj (HAB.out (.inl (by omega)))
            have hda : Hid (downF (few ss most) x y a b (j + 1) (a * b) = min (downF (few ss most) x y a b j (a * b)) (few ss most x y (j + 1) b + few ss most (x + (j + 1)) y (a - (j + 1)) b)) := rfl
            have hf1 := few_le64 ss most (x := x) (y := y) (a := j + 1) (b := b) (by omega) hb2 (by omega) (by omega)
            have hf2 := few_le64 ss most (x := x + (j + 1)) (y := y) (a := a - (j + 1)) (b := b) (by omega) hb2 (by omega) (by omega)
            have hg1 := few_ge ss most (x := x) (y := y) (a := j + 1) (b := b) (by omega) hb2
            have hg2 := few_ge ss most (x := x + (j + 1)) (y := y) (a := a - (j + 1)) (b := b) (by omega) hb2
            have I1 := Lib.hid (fun w' => IH.out x y (j + 1) b x y ((x : Int) + 1 + j) ((y : Int) + b) w' (by omega) rfl rfl (by omega) rfl (by omega) hb2 (by omega) hy)
            have I2 := Lib.hid (fun w' => IH.out (x + (j + 1)) y (a - (j + 1)) b ((x : Int) + 1 + j) y ((x : Int) + a) ((y : Int) + b) w' (by omega) (by omega) rfl (by omega) rfl (by omega) hb2 (by omega) hy)
            clear IH
            generalize downF (few ss most) x y a b j (a * b) = d at *
            generalize few ss most x y (j + 1) b = f1 at *
            generalize few ss most (x + (j + 1)) y (a - (j + 1)) b = f2 at *
            have t1 : (x : Int) + 1 + j < (x : Int) + a := by omega
            have t2 : (1 : Int) < (d : Int) := by omega
            have t3 : 1 < d := by omega
            go_wp2_with fail
            refine (I1.out _ HT.out HB.out).mono ?_; rintro e w1 ⟨rfl, hT1, hB1⟩
            have HT1 := Lib.hid hT1
            have HB1 := Lib.hid hB1
            clear hT1 hB1
            go_wp2_with fail
            refine (I2.out _ HT1.out HB1.out).mono ?_; rintro e w2 ⟨rfl, hT2, hB2⟩
            have HT2 := Lib.hid hT2
            have HB2 := Lib.hid hB2
            clear hT2 hB2
            go_wp2_with fail
            refine (l1Least_min _ _ _).mono ?_; rintro e wx ⟨rfl, rfl⟩
            go_wp2
            go_roundw
            case rel => exact ⟨j + 1, by omega, by go_num, by show Value.int _ _ = Value.int _ _; congr 1; rw [hda.out]; omega, HT2.out, HB2.out⟩
            case measure => simp [intOf]; omega
          · obtain rfl : a = j + 1 := by omega
            have t1 : ¬ (x : Int) + 1 + j < (x : Int) + (j + 1 : Nat) := by omega
            have hd2 : Hid (2 ≤ b → 2 ≤ downF (few ss most) x y (j + 1) b j ((j + 1) * b)) := fun h => (HF1.out j _ (by omega) (HAB.out (.inr h))).1
            have hdl : downF (few ss most) x y (j + 1) b j ((j + 1) * b) ≤ (j + 1) * b := by
              have h := downF_in (g := few ss most) (x := x) (y := y) (a := j + 1) (b := b) (lo := 1) (by omega) (fun x' a' q1 q2 => few_ge ss most q1 hb2) j ((j + 1) * b) (by omega) hab1
              exact h.2
            have HBK : Hid (few ss most x y (j + 1) b = acrF (few ss most) x y (j + 1) b (b - 1) (downF (few ss most) x y (j + 1) b j ((j + 1) * b))) := HS1.out
            clear HF1 HS1
            generalize downF (few ss most) x y (j + 1) b j ((j + 1) * b) = d0 at *
            go_wp2
            go_loopw [16, 18] (fun d k wr => ∃ i : Nat, i + 1 ≤ b ∧ k = .int .i64 ((y : Int) + 1 + i) ∧ d = .int .i64 (acrF (few ss most) x y (j + 1) b i d0 : Nat) ∧ Told ss most W n w0 wr g ∧ Below w0.heap.size w0 wr) (fun _ k _ => (y + b - intOf k).toNat)
            case atStart => exact ⟨0, hb2, by simp, rfl, HT.out, HB.out⟩
            case round =>
              clear HT HB
              obtain ⟨i, hi, rfl, rfl, hT, hB⟩ := hrel
              have HT := Lib.hid hT
              have HB := Lib.hid hB
              clear hT hB
              by_cases hlt2 : i + 1 < b
              · have hd := HF2.out i d0 hi (hd2.out (by omega))
                have hda : Hid (acrF (few ss most) x y (j + 1) b (i + 1) d0 = min (acrF (few ss most) x y (j + 1) b i d0) (few ss most x y (j + 1) (i + 1) + few ss most x (y + (i + 1)) (j + 1) (b - (i + 1)))) := rfl
                have hf1 := few_le64 ss most (x := x) (y := y) (a := j + 1) (b := i + 1) (by omega) (by omega) (by omega) (by omega)
                have hf2 := few_le64 ss most (x := x) (y := y + (i + 1)) (a := j + 1) (b := b - (i + 1)) (by omega) (by omega) (by omega) (by omega)
                have hg1 := few_ge ss most (x := x) (y := y) (a := j + 1) (b := i + 1) (by omega) (by omega)
                have hg2 := few_ge ss most (x := x) (y := y + (i + 1)) (a := j + 1) (b := b - (i + 1)) (by omega) (by omega)
                have I1 := Lib.hid (fun w' => IH.out x y (j + 1) (i + 1) x y ((x : Int) + (j + 1 : Nat)) ((y : Int) + 1 + i) w' (by omega) rfl rfl rfl (by omega) (by omega) (by omega) hx (by omega))
                have I2 := Lib.hid (fun w' => IH.out x (y + (i + 1)) (j + 1) (b - (i + 1)) x ((y : Int) + 1 + i) ((x : Int) + (j + 1 : Nat)) ((y : Int) + b) w' (by omega) rfl (by omega) rfl (by omega) (by omega) (by omega) hx (by omega))
                clear IH
                generalize acrF (few ss most) x y (j + 1) b i d0 = d at *
                generalize few ss most x y (j + 1) (i + 1) = f1 at *
                generalize few ss most x (y + (i + 1)) (j + 1) (b - (i + 1)) = f2 at *
                have t1 : (y : Int) + 1 + i < (y : Int) + b := by omega
                have t2 : (1 : Int) < (d : Int) := by omega
                have t3 : 1 < d := by omega
                go_wp2_with fail
                refine (I1.out _ HT.out HB.out).mono ?_; rintro e w1 ⟨rfl, hT1, hB1⟩
                have HT1 := Lib.hid hT1
                have HB1 := Lib.hid hB1
                clear hT1 hB1
                go_wp2_with fail
                refine (I2.out _ HT1.out HB1.out).mono ?_; rintro e w2 ⟨rfl, hT2, hB2⟩
                have HT2 := Lib.hid hT2
                have HB2 := Lib.hid hB2
                clear hT2 hB2
                go_wp2_with fail
                refine (l1Least_min _ _ _).mono ?_; rintro e wx ⟨rfl, rfl⟩
                go_wp2
                go_roundw
                case rel => exact ⟨i + 1, by omega, by go_num, by show Value.int _ _ = Value.int _ _; congr 1; rw [hda.out]; omega, HT2.out, HB2.out⟩
                case measure => simp [intOf]; omega
              · obtain rfl : b = i + 1 := by omega
                have t1 : ¬ (y : Int) + 1 + i < (y : Int) + (i + 1 : Nat) := by omega
                obtain ⟨v', cv⟩ := hCell.out _ HT.out
                have fv := hOwnG.out _ HT.out
                have st := hSet.out _ HT.out
                rw [HBK.out] at st
                have ST := Lib.hid st
                clear st
                go_wp2
                go_ret
                exact ⟨by rw [HBK.out]; rfl, ST.out, HB.out.setCell hg0 _⟩
    · have hvf : v = few ss most x y a b := by omega
      have hvp : 0 < v := by omega
      clear hvs hv0
      generalize atF x y (x + a) (y + b) = q at *
      go_enter Try.func42, Try.ntmps42
      go_wp2
      go_ret
      exact ⟨rfl, HT.out, HB.out⟩

end Go.Proofs.Ytfbmnaepobhnkaa
