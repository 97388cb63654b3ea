/-
  Contract: CountKeptPlays of the model, and both whatever comes in.
-/
import Derived.Test.YthemmckchmpicaaKpC
import Derived.Test.YthemmckchmpicaaKeptS
import Derived.Test.YthemmckchmpicaaStrs
namespace Go.Proofs.Ythemmckchmpicaa
open Go.RowKit Go.Maps
set_option linter.unusedVariables false
set_option linter.unusedSimpArgs false

theorem intK_info : (Try.prog.info? 3).map (fun i => (i.zero, i.size, i.bytes)) = some (some (.int .i64 0), 1, 8) := by kernel_rfl

set_option maxHeartbeats 1000000 in
theorem leastK_any (a : Int) (w : World) :
    Calls Try.prog 49 #[.int .i64 a, .int .i64 1000000000000001] w fun e w' => e = .returned (.int .i64 (min a 1000000000000001)) ∧ w = w' := by
  by_cases h : a < 1000000000000001
  · rw [show min a 1000000000000001 = a by omega]
    go_enter Try.func49, Try.ntmps49
    go_wp2
    go_ret
    exact ⟨rfl, rfl⟩
  · rw [show min a 1000000000000001 = (1000000000000001 : Int) by omega]
    go_enter Try.func49, Try.ntmps49
    go_wp2
    go_ret
    exact ⟨rfl, rfl⟩

theorem idx_inj {Y a b x y : Nat} (hb : b ≤ Y) (hy : y ≤ Y) (h : a * (Y + 1) + b = x * (Y + 1) + y) : a = x ∧ b = y := by
  rcases Nat.lt_trichotomy a x with h1 | h1 | h1
  · have := Nat.mul_le_mul_right (Y + 1) (show a + 1 ≤ x by omega)
    rw [Nat.succ_mul] at this
    omega
  · subst h1; omega
  · have := Nat.mul_le_mul_right (Y + 1) (show x + 1 ≤ a by omega)
    rw [Nat.succ_mul] at this
    omega
theorem idx_lt {X Y a b : Nat} (ha : a ≤ X) (hb : b ≤ Y) : a * (Y + 1) + b < (X + 1) * (Y + 1) := by
  have := Nat.mul_le_mul_right (Y + 1) (show a + 1 ≤ X + 1 by omega)
  rw [Nat.succ_mul] at this
  omega
theorem idx_wrap {a Y : Nat} (ha : a ≤ 13) (hY : Y ≤ 12) : IntKind.i64.wrap ((a : Int) * ((Y : Int) + 1)) = ((a * (Y + 1) : Nat) : Int) ∧ a * (Y + 1) ≤ 169 := by
  have h : a * (Y + 1) ≤ 13 * 13 := Nat.mul_le_mul ha (by omega)
  have e : (a : Int) * ((Y : Int) + 1) = ((a * (Y + 1) : Nat) : Int) := by rw [Int.natCast_mul]; rfl
  rw [e]
  exact ⟨IntWalk.i64_in _ (by omega), h⟩

/-- the numbers of all bars before one stand in the table -/
def KDone (l : List Int) (X Y x y : Nat) : Prop := ∀ a b : Nat, 1 ≤ a → a ≤ X → 1 ≤ b → b ≤ Y → (a < x ∨ a = x ∧ b < y) → l.getD (a * (Y + 1) + b) 0 = kpK ((a : Int), (b : Int))
theorem KDone.put {l : List Int} {X Y x y : Nat} (h : KDone l X Y x y) (hl : l.length = (X + 1) * (Y + 1)) (hx : x ≤ X) (hy : y ≤ Y) : KDone (l.set (x * (Y + 1) + y) (kpK ((x : Int), (y : Int)))) X Y x (y + 1) := by
  intro a b h1 h2 h3 h4 h5
  by_cases e : a = x ∧ b = y
  · obtain ⟨rfl, rfl⟩ := e
    have hlt := idx_lt h2 h4
    simp only [List.getD, List.getElem?_set]
    simp [hl, hlt]
  · have hne : x * (Y + 1) + y ≠ a * (Y + 1) + b := fun q => e ⟨(idx_inj h4 hy q.symm).1, (idx_inj h4 hy q.symm).2⟩
    have := h a b h1 h2 h3 h4 (by omega)
    rw [← this]
    simp only [List.getD, List.getElem?_set]
    rw [if_neg hne]
theorem KDone.row {l : List Int} {X Y x : Nat} (h : KDone l X Y x (Y + 1)) : KDone l X Y (x + 1) 1 := fun a b h1 h2 h3 h4 h5 => h a b h1 h2 h3 h4 (by omega)

set_option maxRecDepth 100000 in
set_option maxHeartbeats 8000000 in
theorem sCountKeptPlays_yes (X Y : Nat) (w : World) (hB : barB X Y = true) :
    Calls Try.prog 33 #[bar2 X Y] w fun e w' => e = .returned (.tuple #[.int .i64 (ckN X Y), .bool (ckB X Y)]) ∧ Below w.heap.size w w' := by
  obtain ⟨x1, x2, y1, y2⟩ := barB_true hB
  have hX : X ≤ 12 := by omega
  have hY : Y ≤ 12 := by omega
  have HBB := Lib.hid hB
  obtain ⟨i0, hi, hz0, hz1, hz2⟩ := info_parts intK_info
  obtain ⟨N, hN⟩ : ∃ N, N = (X + 1) * (Y + 1) := ⟨_, rfl⟩
  have hw0 := (idx_wrap (a := X + 1) (Y := Y) (by omega) hY)
  rw [← hN] at hw0
  have hwN : IntKind.i64.wrap (((X : Int) + 1) * ((Y : Int) + 1)) = (N : Int) := by have := hw0.1; push_cast at this; exact this
  have hN169 : N ≤ 169 := hw0.2
  have HN := Lib.hid hN
  clear hw0 hN x1 x2 y1 y2
  go_enter Try.func33, Try.ntmps33
  go_wp2_with fail
  refine (brGood_any _ _ _).mono ?_; rintro e w1 ⟨rfl, hb1⟩; have s1 := hb1.size; obtain ⟨hc1, hf1⟩ := bcell hb1; have z1_w0 : w.heap.size < w1.heap.size := (by have q := s1; first | omega | (simp at q; omega))
  have c0 : w1.cell? ⟨w.heap.size, 0, none⟩ = some (.int .i64 X) := by rw [hc1 _ _ (by simp)]; simp [go_sem]
  have c1 : w1.cell? ⟨w.heap.size, 1, none⟩ = some (.int .i64 Y) := by rw [hc1 _ _ (by simp)]; simp [go_sem]
  have bw1 : Below w.heap.size w w1 := by (repeat (first | (with_reducible exact Below.refl _ _) | (with_reducible assumption) | (with_reducible refine Below.drew ?_) | ((with_reducible refine balloc ?_ _ ?_); · (first | (simp; done) | (simp; omega) | omega)) | ((with_reducible refine bset ?_ _ ?_); · (first | (simp; done) | (simp; omega) | omega)) | (with_reducible refine bdrewN _ ?_) | ((with_reducible refine bcall ?_ (by assumption) ?_); · (first | (simp; done) | (simp; omega) | omega))))
  clear hc1 hf1 hb1
  go_wp2_with (at_make; refine wpList_make_full _ rfl (.tmp 20) (.tmp 20) 52 rfl w1.heap.size 3 i0 (.int .i64 0) 1 Try.underlying52 hi hz0 hz1 .i64 .i64 _ _ N rfl rfl rfl rfl ?b2 ?b3 (Nat.le_refl _) ?_)
  case b2 => rw [hz2]; omega
  case b3 => simp only [maxLen]; omega
  intro w2 hown hgrow
  have hb12 : Below w1.heap.size w1 w2 := (Below.refl _ _).grown hgrow (Nat.le_refl _) (fun k hk => by cases hk)
  have e1 : (madeCells #[Value.int IntKind.i64 0] N).toList = intCells (List.replicate N 0) := by rw [toList_madeCells_one]; simp [intCells]
  rw [e1] at hown
  have C0 := Lib.hid c0
  have C1 := Lib.hid c1
  have BW1 := Lib.hid bw1
  have HO2 := Lib.hid hown
  have HB12 := Lib.hid hb12
  have s2 : w1.heap.size + 1 ≤ w2.heap.size := by have := (hown.lt w1.heap.size (by simp [Value.ownBlock])).2; omega
  have hz0 : w.heap.size < w1.heap.size := z1_w0
  have k0 := (hb12.cell (p := ⟨w.heap.size, 0, none⟩) z1_w0).trans c0
  have k1 := (hb12.cell (p := ⟨w.heap.size, 1, none⟩) z1_w0).trans c1
  clear hgrow hown c0 c1 bw1 e1 hB hb12
  go_wp2
  clear k0 k1
  go_loopw [5] (fun i wr => ∃ (x : Nat) (l : List Int), 1 ≤ x ∧ x ≤ X + 1 ∧ i = .int .i64 x ∧ wr.ownsRow w1.heap.size 3 1 (.slice (some ⟨w1.heap.size, 0, none⟩) N N) N (intCells l) ∧ Hid (l.length = N) ∧ Hid (KDone l X Y x 1) ∧ Below w1.heap.size w1 wr) (fun i _ => X + 1 - (intOf i).toNat)
  case atStart => exact ⟨1, _, by omega, by omega, rfl, HO2.out, by simp [Hid], fun a b h1 h2 h3 h4 h5 => by omega, HB12.out⟩
  case round =>
    obtain ⟨x, l, hx1, hxX, rfl, hown, hL, hD, hB⟩ := hrel
    have e0 := (hB.cell (p := ⟨w.heap.size, 0, none⟩) z1_w0).trans C0.out
    have e1 := (hB.cell (p := ⟨w.heap.size, 1, none⟩) z1_w0).trans C1.out
    by_cases hlt : x ≤ X
    · have hlti : (x : Int) ≤ (X : Int) := by omega
      have HO := Lib.hid hown
      have HBl := Lib.hid hB
      clear hown hB
      go_wp2
      clear e0 e1
      obtain ⟨wo, hwo⟩ : ∃ wo, wo = wr := ⟨_, rfl⟩
      subst hwo
      go_loopw [6] (fun i wr => ∃ (y : Nat) (l : List Int), 1 ≤ y ∧ y ≤ Y + 1 ∧ i = .int .i64 y ∧ wr.ownsRow w1.heap.size 3 1 (.slice (some ⟨w1.heap.size, 0, none⟩) N N) N (intCells l) ∧ Hid (l.length = N) ∧ Hid (KDone l X Y x y) ∧ Below w1.heap.size w1 wr) (fun i _ => Y + 1 - (intOf i).toNat)
      case atStart => exact ⟨1, l, by omega, by omega, rfl, HO.out, hL, hD, HBl.out⟩
      case round =>
        clear HO HBl hL hD
        obtain ⟨y, l, hy1, hyY, rfl, hown, hL, hD, hB⟩ := hrel
        have e0 := (hB.cell (p := ⟨w.heap.size, 0, none⟩) z1_w0).trans C0.out
        have e1 := (hB.cell (p := ⟨w.heap.size, 1, none⟩) z1_w0).trans C1.out
        by_cases hly : y ≤ Y
        · have hlyi : (y : Int) ≤ (Y : Int) := by omega
          have hBp : barB (x : Int) (y : Int) = true := by simp [barB]; omega
          have HBp := Lib.hid hBp
          have HK := Lib.hid (kpK_eq (p := ((x : Int), (y : Int))) hBp)
          have sB := hB.size
          have HO := Lib.hid hown
          have HBl := Lib.hid hB
          have hglt := (hown.lt w1.heap.size (by simp [Value.ownBlock])).2
          have hcase : ∃ bx bY : Bool, ((x : Int) == 1) = bx ∧ ((y : Int) == 1) = bY ∧ Hid (kone ((x : Int), (y : Int)) = if bx && bY then 1 else 0) :=
            ⟨_, _, rfl, rfl, by simp [Hid, kone]⟩
          obtain ⟨bx, bY, tx, ty, hk1⟩ := hcase
          clear hown hB hBp
          cases bx <;> cases bY
          all_goals
            simp only [Bool.and_self, Bool.and_true, Bool.and_false, Bool.false_eq_true, if_true, if_false] at hk1
            go_wp2_with fail
            refine (laKept_any _ _ _ HBp.out).mono ?_; rintro e w3 ⟨A, n, c, rfl, own3, hb3⟩
            clear tx ty
            have s3 := hb3.size
            have HB3 := Lib.hid (HBl.out.trans (hb3.mono sB))
            have HO3 := Lib.hid (own_later HO.out hb3 (Nat.le_refl _))
            have hn : (kmL x y).length = n := by have := own3.1; rw [length_pairCells] at this; omega
            have hn22 : n ≤ 22 := by have := length_kmL HBp.out; omega
            have HMEM : Hid (∀ q ∈ kmL x y, (q.2 = y ∧ 1 ≤ q.1 ∧ q.1 < x) ∨ (q.1 = x ∧ 1 ≤ q.2 ∧ q.2 < y)) := fun q hq => mem_kmL hq
            have HSUM : Hid (∀ k (hk : k < (kmL x y).length), kfold kpK ((kmL x y).take (k + 1)) (kone (x, y)) = min (kfold kpK ((kmL x y).take k) (kone (x, y)) + kpK ((kmL x y)[k])) 1000000000000001) := fun k hk => kfold_take kpK hk _
            have HIN : Hid (∀ k, 0 ≤ kfold kpK ((kmL x y).take k) (kone (x, y)) ∧ kfold kpK ((kmL x y).take k) (kone (x, y)) ≤ 1000000000000001) := fun k => kfold_in (fun q _ => (kpK_in q).1) (by unfold kone; split <;> omega) (by unfold kone; split <;> omega)
            generalize hMM : kmL x y = L at *
            have HNL := Lib.hid hn
            have hr := Rd.of_own own3
            clear hn hMM own3 hb3
            go_wp2
            clear e0 e1
            go_loopw [7, 45] (fun s i wr => ∃ k : Nat, k ≤ n ∧ i = .int .i64 k ∧ s = .int .i64 (kfold kpK (L.take k) (kone (x, y))) ∧ Below w3.heap.size w3 wr) (fun _ i _ => n - (intOf i).toNat)
            case atStart => exact ⟨0, by omega, rfl, by rw [hk1.out]; simp [kfold], Below.refl _ _⟩
            case round =>
              obtain ⟨k, hk, rfl, rfl, hB⟩ := hrel
              have sB3 := hB.size
              have e0 := (hB.cell (p := ⟨w.heap.size, 0, none⟩) (by show w.heap.size < w3.heap.size; omega)).trans ((HB3.out.cell (p := ⟨w.heap.size, 0, none⟩) z1_w0).trans C0.out)
              have e1 := (hB.cell (p := ⟨w.heap.size, 1, none⟩) (by show w.heap.size < w3.heap.size; omega)).trans ((HB3.out.cell (p := ⟨w.heap.size, 1, none⟩) z1_w0).trans C1.out)
              by_cases hlk : k < n
              · obtain ⟨b', o, rfl, hbl', hx, p0, p1⟩ := (hr.later hB (Nat.le_refl _)).pair hlk
                have hm := HMEM.out _ (List.getElem_mem hx)
                have hSUM := HSUM.out k hx
                have hin := HIN.out k
                have hkin := kpK_in L[k]
                have HP : Hid (∀ P Q : Nat, (L[k]).1 = P → (L[k]).2 = Q → l.getD (P * (Y + 1) + Q) 0 = kpK L[k]) := fun P Q h1 h2 => by
                  rw [hD.out P Q (by omega) (by omega) (by omega) (by omega) (by omega)]
                  exact congrArg kpK (Prod.ext h1.symm h2.symm)
                generalize kpK L[k] = v at *
                generalize kfold kpK (L.take k) (kone (x, y)) = s at *
                generalize (L[k]).1 = p at *
                generalize (L[k]).2 = q at *
                obtain ⟨P, rfl⟩ : ∃ P : Nat, p = P := ⟨p.toNat, by omega⟩
                obtain ⟨Q, rfl⟩ : ∃ Q : Nat, q = Q := ⟨q.toNat, by omega⟩
                have hgd := HP.out P Q rfl rfl
                have hPl : P ≤ X := by omega
                have hQl : Q ≤ Y := by omega
                obtain ⟨hw1, hw2⟩ := idx_wrap (a := P) (Y := Y) (by omega) hY
                have hil := idx_lt hPl hQl
                rw [← HN.out] at hil
                generalize P * (Y + 1) = m at *
                have hO := own_later HO3.out hB (Nat.le_refl _)
                have hcell := hO.cellAt (m + Q) (by omega)
                have hlm : m + Q < l.length := by rw [hL.out]; exact hil
                rw [show (intCells l)[m + Q]? = some (.int .i64 v) by simp [intCells, ← hgd, List.getD, hlm]] at hcell
                have HSUM2 := Lib.hid hSUM
                have HBW := Lib.hid hB
                obtain ⟨i1, i2⟩ := hin
                obtain ⟨j1, j2⟩ := hkin
                have hbl2 : b' < wr.heap.size + 1 := by omega
                have hgl2 : w1.heap.size < wr.heap.size := by omega
                have hwl2 : w.heap.size < wr.heap.size := by omega
                have hmqi : (m : Int) + (Q : Int) < (N : Int) := by omega
                have hwx : IntKind.i64.wrap (s + v) = s + v := IntWalk.i64_in _ (by omega)
                clear hO hgd hlm hSUM hB hm
                go_wp2_with fail
                refine (leastK_any _ _).mono ?_; rintro e wx ⟨rfl, rfl⟩
                go_wp2
                go_roundw
                case rel => exact ⟨k + 1, by omega, by go_num, by rw [HSUM2.out], HBW.out.alloc (by omega) _⟩
                case measure => simp [intOf]; omega
              · obtain rfl : k = n := by omega
                have hv : kfold kpK (L.take k) (kone ((x : Int), (y : Int))) = kpK ((x : Int), (y : Int)) := by
                  rw [List.take_of_length_le (by rw [HNL.out]; exact Nat.le_refl _)]; exact HK.out.symm
                rw [hv]
                obtain ⟨hw1, hw2⟩ := idx_wrap (a := x) (Y := Y) (by omega) hY
                have hil := idx_lt (X := X) (Y := Y) hlt hly
                rw [← HN.out] at hil
                have HDP := Lib.hid (hD.out.put (by rw [hL.out]; exact HN.out) hlt hly)
                generalize hmm : x * (Y + 1) = m at *
                clear hmm
                have hO := own_later HO3.out hB (Nat.le_refl _)
                have hcell := hO.cellAt (m + y) (by omega)
                have lcs : (intCells l).length = N * 1 := hO.1
                rw [List.getElem?_eq_getElem (by omega)] at hcell
                have f0 := hO.frozenAt (m + y)
                have st := hO.stored (m + y) (.int .i64 (kpK ((x : Int), (y : Int))))
                rw [set_intCells] at st
                have ST := Lib.hid st.1
                have hmyi : (m : Int) + (y : Int) < (N : Int) := by omega
                have HBX := Lib.hid (HB3.out.trans (hB.mono (by omega)))
                have HLS : Hid ((l.set (m + y) (kpK ((x : Int), (y : Int)))).length = N) := by simpa [Hid] using hL.out
                generalize kpK ((x : Int), (y : Int)) = v at *
                generalize (intCells l)[m + y] = v0 at hcell
                have hgl2 : w1.heap.size < wr.heap.size := by omega
                clear st hO lcs hv hB
                go_wp2
                go_roundw
                case rel => exact ⟨y + 1, _, by omega, by omega, by go_num, ST.out, HLS, HDP, bset (by exact Nat.le_refl _) _ HBX.out⟩
                case measure => simp [intOf]; omega
        · have hye : y = Y + 1 := by omega
          subst hye
          have hnle : decide (((Y + 1 : Nat) : Int) ≤ (Y : Int)) = false := by simp; omega
          have HO := Lib.hid hown
          have HD := Lib.hid hD.out.row
          have HBl := Lib.hid hB
          clear hown hB hD
          go_wp2
          go_roundw
          case rel => exact ⟨x + 1, l, by omega, by omega, by go_num, HO.out, hL, HD, HBl.out⟩
          case measure => simp [intOf]; omega
    · have hxe : x = X + 1 := by omega
      subst hxe
      have hDX := hD.out X Y (by have := barB_true HBB.out; omega) (Nat.le_refl _) (by have := barB_true HBB.out; omega) (Nat.le_refl _) (by omega)
      obtain ⟨hw1, hw2⟩ := idx_wrap (a := X) (Y := Y) (by omega) hY
      have hil := idx_lt (X := X) (Y := Y) (Nat.le_refl _) (Nat.le_refl _)
      rw [← HN.out] at hil
      generalize hmm : X * (Y + 1) = m at *
      clear hmm
      have hcell := hown.cellAt (m + Y) (by omega)
      have hlm : m + Y < l.length := by rw [hL.out]; exact hil
      rw [show (intCells l)[m + Y]? = some (.int .i64 (kpK ((X : Int), (Y : Int)))) by simp [intCells, ← hDX, List.getD, hlm]] at hcell
      have hmyi : (m : Int) + (Y : Int) < (N : Int) := by omega
      have HBF := Lib.hid (BW1.out.trans (hB.mono (by omega)))
      have hbb := HBB.out
      by_cases hgt : 1000000000000000 < kpK ((X : Int), (Y : Int))
      · have hgt' : decide ((1000000000000000 : Int) < kpK ((X : Int), (Y : Int))) = true := decide_eq_true hgt
        have HN1 : Hid (ckN X Y = 0) := if_neg (by omega)
        have HN2 : Hid (ckB X Y = false) := by simp [Hid, ckB]; intro; omega
        generalize kpK ((X : Int), (Y : Int)) = v at *
        clear hD hB hown hDX hbb hgt hlm
        go_wp2
        go_ret2
        exact ⟨by simp [HN1.out, HN2.out], HBF.out⟩
      · have hgt' : decide ((1000000000000000 : Int) < kpK ((X : Int), (Y : Int))) = false := decide_eq_false hgt
        have HN1 : Hid (ckN X Y = kpK ((X : Int), (Y : Int))) := if_pos ⟨hbb, by omega⟩
        have HN2 : Hid (ckB X Y = true) := by simp [Hid, ckB, hbb]; omega
        generalize kpK ((X : Int), (Y : Int)) = v at *
        clear hD hB hown hDX hbb hgt hlm
        go_wp2
        go_ret2
        exact ⟨by simp [HN1.out, HN2.out], HBF.out⟩

theorem ck_no {x y : Int} (h : barB x y = false) : ckN x y = 0 ∧ ckB x y = false := by simp [ckN, ckB, h]
set_option maxHeartbeats 1000000 in
theorem countKeptPlays_any (x y : Int) (w : World) :
    Calls Try.prog 34 #[bar2 x y] w fun e w' => e = .returned (.tuple #[.int .i64 (ckN x y), .bool (ckB x y)]) ∧ Below w.heap.size w w' := by
  cases hB : barB x y
  · obtain ⟨h1, h2⟩ := ck_no hB
    rw [h1, h2]
    go_enter Try.func34, Try.ntmps34
    go_wp2_with fail
    refine (isBar_any _ _ _).mono ?_; rintro e w1 ⟨rfl, hb1⟩; have s1 := hb1.size; obtain ⟨hc1, hf1⟩ := bcell hb1; have z1_w0 : w.heap.size < w1.heap.size := (by have q := s1; first | omega | (simp at q; omega))
    go_wp2
    go_ret2
    exact ⟨rfl, by (repeat (first | (with_reducible exact Below.refl _ _) | (with_reducible assumption) | (with_reducible refine Below.drew ?_) | ((with_reducible refine balloc ?_ _ ?_); · (first | (simp; done) | (simp; omega) | omega)) | ((with_reducible refine bset ?_ _ ?_); · (first | (simp; done) | (simp; omega) | omega)) | (with_reducible refine bdrewN _ ?_) | ((with_reducible refine bcall ?_ (by assumption) ?_); · (first | (simp; done) | (simp; omega) | omega))))⟩
  · obtain ⟨h1, h2, h3, h4⟩ := barB_true hB
    obtain ⟨X, rfl⟩ : ∃ X : Nat, x = X := ⟨x.toNat, by omega⟩
    obtain ⟨Y, rfl⟩ : ∃ Y : Nat, y = Y := ⟨y.toNat, by omega⟩
    exact countKeptPlays_yes X Y w hB
set_option maxHeartbeats 1000000 in
theorem sCountKeptPlays_any (x y : Int) (w : World) :
    Calls Try.prog 33 #[bar2 x y] w fun e w' => e = .returned (.tuple #[.int .i64 (ckN x y), .bool (ckB x y)]) ∧ Below w.heap.size w w' := by
  cases hB : barB x y
  · obtain ⟨h1, h2⟩ := ck_no hB
    rw [h1, h2]
    go_enter Try.func33, Try.ntmps33
    go_wp2_with fail
    refine (brGood_any _ _ _).mono ?_; rintro e w1 ⟨rfl, hb1⟩; have s1 := hb1.size; obtain ⟨hc1, hf1⟩ := bcell hb1; have z1_w0 : w.heap.size < w1.heap.size := (by have q := s1; first | omega | (simp at q; omega))
    go_wp2
    go_ret2
    exact ⟨rfl, by (repeat (first | (with_reducible exact Below.refl _ _) | (with_reducible assumption) | (with_reducible refine Below.drew ?_) | ((with_reducible refine balloc ?_ _ ?_); · (first | (simp; done) | (simp; omega) | omega)) | ((with_reducible refine bset ?_ _ ?_); · (first | (simp; done) | (simp; omega) | omega)) | (with_reducible refine bdrewN _ ?_) | ((with_reducible refine bcall ?_ (by assumption) ?_); · (first | (simp; done) | (simp; omega) | omega))))⟩
  · obtain ⟨h1, h2, h3, h4⟩ := barB_true hB
    obtain ⟨X, rfl⟩ : ∃ X : Nat, x = X := ⟨x.toNat, by omega⟩
    obtain ⟨Y, rfl⟩ : ∃ Y : Nat, y = Y := ⟨y.toNat, by omega⟩
    exact sCountKeptPlays_yes X Y w hB

end Go.Proofs.Ythemmckchmpicaa
