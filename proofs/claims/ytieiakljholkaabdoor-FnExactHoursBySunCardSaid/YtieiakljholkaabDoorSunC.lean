/-
  Contracts: HoursBySun of the program and of the model.
-/
import Derived.Test.YtieiakljholkaabDoorSideT
namespace Go.Proofs.YtieiakljholkaabDoor
open Go.RowKit
set_option linter.unusedVariables false
set_option linter.unusedSimpArgs false

/-- the greatest of the first k numbers -/
def maxR (c : Nat → Nat) : Nat → Nat
  | 0 => 0
  | k + 1 => max (maxR c k) (c k)
theorem maxR_le {c : Nat → Nat} {m : Nat} : ∀ {k : Nat}, maxR c k ≤ m ↔ ∀ y, y < k → c y ≤ m
  | 0 => ⟨fun _ y hy => absurd hy (Nat.not_lt_zero _), fun _ => Nat.zero_le _⟩
  | k + 1 => by
    have ih := maxR_le (c := c) (m := m) (k := k)
    constructor
    · intro h y hy
      have h1 : maxR c k ≤ m := Nat.le_trans (Nat.le_max_left _ _) h
      have h2 : c k ≤ m := Nat.le_trans (Nat.le_max_right _ _) h
      rcases Nat.lt_or_ge y k with q | q
      · exact ih.1 h1 y q
      · have : y = k := by omega
        rw [this]; exact h2
    · intro h
      exact Nat.max_le.2 ⟨ih.2 fun y hy => h y (by omega), h k (by omega)⟩
def rowC (W : Nat) (g : Nat → Nat → Bool) (y : Nat) : Nat := (List.range W).countP (g y)
theorem rowC_le (W : Nat) (g : Nat → Nat → Bool) (y : Nat) : rowC W g y ≤ W := by
  have := List.countP_le_length (p := g y) (l := List.range W)
  rwa [List.length_range] at this
theorem rowC_zero {W : Nat} {g : Nat → Nat → Bool} {y : Nat} : rowC W g y = 0 ↔ ∀ x, x < W → g y x = false := by
  unfold rowC
  rw [List.countP_eq_zero]
  constructor
  · intro h x hx
    have := h x (List.mem_range.2 hx)
    simpa using this
  · intro h x hx
    rw [h x (List.mem_range.1 hx)]
    simp
theorem rowC_lit (W : Nat) (g : Nat → Nat → Bool) (y : Nat) : rowC W (litG g) y = rowC W g y - 1 := count_lit W (g y)
theorem rowC_congr {W y : Nat} {g g' : Nat → Nat → Bool} (h : ∀ x, x < W → g y x = g' y x) : rowC W g y = rowC W g' y := by
  unfold rowC
  apply List.countP_congr
  intro x hx
  rw [h x (List.mem_range.1 hx)]
theorem cnt_zero {W n : Nat} {g : Nat → Nat → Bool} (hW : 0 < W) : cntF W (n * W) g = 0 ↔ ∀ y, y < n → ∀ x, x < W → g y x = false := by
  unfold cntF isF
  rw [List.countP_map, List.countP_eq_zero]
  constructor
  · intro h y hy x hx
    have := h (y * W + x) (List.mem_range.2 (lin_lt hy hx))
    have d := divmod_at (W := W) (y := y) hx
    simp only [Function.comp_apply, d.1, d.2, id] at this
    simpa using this
  · intro h k hk
    have := h (k / W) (Nat.div_lt_of_lt_mul (by rw [Nat.mul_comm]; exact List.mem_range.1 hk)) (k % W) (Nat.mod_lt _ hW)
    simp [this]
/-- turned, the rows hold all squares -/
theorem view_zero {W n k : Nat} (hk : k ≤ 3) (g : Nat → Nat → Bool) : (∀ y, y < n → ∀ x, x < W → g y x = false) ↔ ∀ y, y < tW n W k → ∀ x, x < tW W n k → tG W n g k y x = false := by
  rcases (show k = 0 ∨ k = 1 ∨ k = 2 ∨ k = 3 by omega) with rfl | rfl | rfl | rfl
  · exact Iff.rfl
  · show _ ↔ ∀ y, y < W → ∀ x, x < n → g (n - 1 - x) y = false
    constructor
    · intro h y hy x hx; exact h _ (by omega) _ hy
    · intro h y hy x hx
      have := h x hx (n - 1 - y) (by omega)
      rwa [show n - 1 - (n - 1 - y) = y by omega] at this
  · show _ ↔ ∀ y, y < n → ∀ x, x < W → g (n - 1 - y) (W - 1 - x) = false
    constructor
    · intro h y hy x hx; exact h _ (by omega) _ (by omega)
    · intro h y hy x hx
      have := h (n - 1 - y) (by omega) (W - 1 - x) (by omega)
      rwa [show n - 1 - (n - 1 - y) = y by omega, show W - 1 - (W - 1 - x) = x by omega] at this
  · show _ ↔ ∀ y, y < W → ∀ x, x < n → g (n - 1 - (n - 1 - x)) (W - 1 - y) = false
    constructor
    · intro h y hy x hx; exact h _ (by omega) _ (by omega)
    · intro h y hy x hx
      have := h (W - 1 - x) (by omega) y hy
      rwa [show n - 1 - (n - 1 - y) = y by omega, show W - 1 - (W - 1 - x) = x by omega] at this
/-- what a sun takes out is the first square of each row of the tablet turned -/
theorem view_sun {W n k : Nat} (hk : k ≤ 3) (g : Nat → Nat → Bool) : ∀ y, y < tW n W k → ∀ x, x < tW W n k → tG W n (tq (tabF W n (sunG W n k g))) k y x = litG (tG W n g k) y x := by
  rcases (show k = 0 ∨ k = 1 ∨ k = 2 ∨ k = 3 by omega) with rfl | rfl | rfl | rfl
  · intro y hy x hx
    have hy' : y < n := hy
    have hx' : x < W := hx
    show tq (tabF W n (sunG W n 0 g)) y x = _
    rw [tq_tabF hy' hx']
    rfl
  · intro y hy x hx
    have hy' : y < W := hy
    have hx' : x < n := hx
    show tq (tabF W n (sunG W n 1 g)) (n - 1 - x) y = (g (n - 1 - x) y && (List.range x).any fun i => g (n - 1 - i) y)
    rw [tq_tabF (by omega) hy']
    show (g (n - 1 - x) y && (List.range (n - 1 - (n - 1 - x))).any fun i => g (n - 1 - i) y) = _
    rw [show n - 1 - (n - 1 - x) = x by omega]
  · intro y hy x hx
    have hy' : y < n := hy
    have hx' : x < W := hx
    show tq (tabF W n (sunG W n 2 g)) (n - 1 - y) (W - 1 - x) = (g (n - 1 - y) (W - 1 - x) && (List.range x).any fun i => g (n - 1 - y) (W - 1 - i))
    rw [tq_tabF (by omega) (by omega)]
    show (g (n - 1 - y) (W - 1 - x) && (List.range (W - 1 - (W - 1 - x))).any fun i => g (n - 1 - y) (W - 1 - i)) = _
    rw [show W - 1 - (W - 1 - x) = x by omega]
  · intro y hy x hx
    have hy' : y < W := hy
    have hx' : x < n := hx
    show tq (tabF W n (sunG W n 3 g)) (n - 1 - (n - 1 - x)) (W - 1 - y) = (g (n - 1 - (n - 1 - x)) (W - 1 - y) && (List.range x).any fun i => g (n - 1 - (n - 1 - i)) (W - 1 - y))
    rw [tq_tabF (by omega) (by omega)]
    show (g (n - 1 - (n - 1 - x)) (W - 1 - y) && (List.range (n - 1 - (n - 1 - x))).any fun i => g i (W - 1 - y)) = _
    rw [show n - 1 - (n - 1 - x) = x by omega]
    congr 1
    apply any_congr
    intro i hi
    rw [show n - 1 - (n - 1 - i) = i by omega]
/-- the rows, turned, have lost so many squares -/
def Lost (W n k : Nat) (c : Nat → Nat) (L : List ByteArray) (j : Nat) : Prop := ∀ y, y < tW n W k → rowC (tW W n k) (tG W n (tq L) k) y = c y - j
theorem Lost.next {W n k : Nat} {c : Nat → Nat} {L : List ByteArray} {j : Nat} (hk : k ≤ 3) (h : Lost W n k c L j) : Lost W n k c (tabF W n (sunG W n k (tq L))) (j + 1) := by
  intro y hy
  rw [rowC_congr (view_sun hk (tq L) y hy), rowC_lit, h y hy]
  omega
theorem Lost.done {W n k : Nat} {c : Nat → Nat} {L : List ByteArray} {j : Nat} (hk : k ≤ 3) (hW : 0 < W) (h : Lost W n k c L j) : cntF W (n * W) (tq L) = 0 ↔ maxR c (tW n W k) ≤ j := by
  rw [cnt_zero hW, view_zero hk, maxR_le]
  constructor
  · intro q y hy
    have := rowC_zero.2 (q y hy)
    rw [h y hy] at this
    omega
  · intro q y hy
    apply rowC_zero.1
    rw [h y hy]
    have := q y hy
    omega

/-- the hours of a sun, or 0 -/
def hrsR (ss : List ByteArray) (s : ByteArray) : Nat := if sdOk ss s then maxR (rowC (tW (tabW ss) ss.length (sideK s)) (tG (tabW ss) ss.length (tq ss) (sideK s))) (tW ss.length (tabW ss) (sideK s)) else 0
theorem hrsR_no {ss : List ByteArray} {s : ByteArray} (h : sdOk ss s = false) : hrsR ss s = 0 := by simp [hrsR, h]
theorem hrsR_yes {ss : List ByteArray} {s : ByteArray} {W n : Nat} (hb : TB ss W n) (h : sdOk ss s = true) : hrsR ss s = maxR (rowC (tW W n (sideK s)) (tG W n (tq ss) (sideK s))) (tW n W (sideK s)) := by simp [hrsR, h, hb.headW, hb.len]
theorem sideK_le (s : ByteArray) : sideK s ≤ 3 := by unfold sideK; (repeat' split) <;> omega

set_option maxRecDepth 100000 in
set_option maxHeartbeats 2000000 in
theorem sHoursBySun_any (A : Option Addr) (n c : Nat) (ss : List ByteArray) (s : ByteArray) (w : World) (hr : Rd w 1 A n (strCells ss)) (_hs : s.size ≤ maxLen) (hsz : ∀ s ∈ ss, s.size ≤ 9223372036854775807) :
    Calls Tryd.prog 20 #[.slice A n c, .string s] w fun e w' => e = .returned (.tuple #[.int .i64 (hrsR ss s : Nat), .bool (sdOk ss s)]) ∧ Below w.heap.size w w' := by
  have HG := Lib.hid (mlSide_any A n c ss s w hr hsz)
  clear hsz
  cases hB : sdOk ss s
  · rw [hB] at HG
    rw [hrsR_no hB]
    go_enter Tryd.func20, Tryd.ntmps20
    go_wp2_with fail
    refine HG.out.mono ?_; rintro e w1 ⟨rfl, rfl⟩
    go_wp2
    go_ret2
    exact ⟨rfl, Below.refl _ _⟩
  · rw [hB] at HG
    have hB2 := hB
    simp only [sdOk, Bool.and_eq_true] at hB2
    have hb := TB.of hB2.1
    rw [hr.slen] at hb
    rw [hrsR_yes hb hB]
    have hs3 := sideK_le s
    have hW1 := hb.w1
    have hW10 := hb.w10
    have hn1 := hb.h1
    have hn10 := hb.h10
    generalize tabW ss = W at *
    have HS : Hid (∀ (A : Option Addr) (c : Nat) (L : List ByteArray) (wx : World), Rd wx 1 A n (strCells L) → TB L W n → Calls Tryd.prog 39 #[.slice A n c, .string s] wx fun e w' => ∃ A' c', e = .returned (.slice A' n c') ∧ w'.ownsRow wx.heap.size 9 1 (.slice A' n c') n (strCells (tabF W n (sunG W n (sideK s) (tq L)))) ∧ Below wx.heap.size wx w') := fun A c L wx h1 h2 => mlSun_any A n c W L s wx h1 h2 hB2.2
    have HL : Hid (∀ (A : Option Addr) (c : Nat) (L : List ByteArray) (wx : World), Rd wx 1 A n (strCells L) → TB L W n → Calls Tryd.prog 45 #[.slice A n c] wx fun e w' => e = .returned (.int .i64 (cntF W (n * W) (tq L) : Nat)) ∧ Below wx.heap.size wx w') := fun A c L wx h1 h2 => mlLeft_any A n c W L wx h1 h2
    obtain ⟨C, hC⟩ : ∃ C, C = rowC (tW W n (sideK s)) (tG W n (tq ss) (sideK s)) := ⟨_, rfl⟩
    have HLost : Hid (Lost W n (sideK s) C ss 0) := by intro y hy; rw [hC]; rfl
    rw [← hC]
    have HD : Hid (∀ L j, Lost W n (sideK s) C L j → (cntF W (n * W) (tq L) = 0 ↔ maxR C (tW n W (sideK s)) ≤ j)) := fun L j h => h.done hs3 hW1
    have HN : Hid (∀ L j, Lost W n (sideK s) C L j → Lost W n (sideK s) C (tabF W n (sunG W n (sideK s) (tq L))) (j + 1)) := fun L j h => h.next hs3
    have hm10 : maxR C (tW n W (sideK s)) ≤ 10 := maxR_le.2 fun y _ => by
      rw [hC]
      refine Nat.le_trans (rowC_le _ _ _) ?_
      unfold tW; split <;> omega
    generalize maxR C (tW n W (sideK s)) = mx at *
    have HT : Hid (TB ss W n) := hb
    have HTF : Hid (∀ g, TB (tabF W n g) W n) := fun g => TB.tabF hn1 hn10 hW1 hW10 g
    clear hB hB2 hC hb
    go_enter Tryd.func20, Tryd.ntmps20
    go_wp2_with fail
    refine HG.out.mono ?_; rintro e w1 ⟨rfl, rfl⟩
    go_wp2
    go_loopw [6, 7] (fun h v wr => ∃ (j : Nat) (A' : Option Addr) (c' : Nat) (L : List ByteArray), j ≤ mx ∧ h = .int .i64 j ∧ v = .slice A' n c' ∧ Hid (TB L W n) ∧ Hid (Lost W n (sideK s) C L j) ∧ Rd wr 1 A' n (strCells L) ∧ Below w.heap.size w wr) (fun h _ _ => mx - (intOf h).toNat)
    case atStart => exact ⟨0, A, c, ss, Nat.zero_le _, rfl, rfl, HT, HLost, hr, Below.refl _ _⟩
    case round =>
      obtain ⟨j, A', c', L, hj, rfl, rfl, hT, hLo, hrd, hB⟩ := hrel
      have sB := hB.size
      have HDJ := Lib.hid (HD.out L j hLo.out)
      have HLL := Lib.hid (HL.out A' c' L wr hrd hT.out)
      generalize cntF W (n * W) (tq L) = ct at *
      go_wp2_with fail
      refine HLL.out.mono ?_; rintro e w2 ⟨rfl, hb2⟩
      have s2 := hb2.size
      have hB2 := hB.trans (hb2.mono sB)
      by_cases hz : 0 < ct
      · have hjm : j < mx := by
          rcases Nat.lt_or_ge j mx with q | q
          · exact q
          · have := HDJ.out.2 q; omega
        go_wp2_with fail
        refine (HS.out A' c' L w2 (hrd.later hb2 (Nat.le_refl _)) hT.out).mono ?_; rintro e w3 ⟨A3, c3, rfl, own3, hb3⟩
        have hrd3 := Rd.of_own own3
        have hB3 := hB2.trans (hb3.mono (by omega))
        clear own3 hb3 hb2
        go_wp2
        go_roundw
        case rel => exact ⟨j + 1, A3, c3, _, by omega, by go_num, rfl, HTF.out _, HN.out _ _ hLo.out, hrd3, hB3⟩
        case measure => simp [intOf]; omega
      · have hjm : j = mx := by
          have := HDJ.out.1 (by omega)
          omega
        go_wp2
        go_ret2
        exact ⟨rfl, hB2⟩

theorem side_atC {c : UInt8} (h : c = 108 ∨ c = 100 ∨ c = 114 ∨ c = 117) : ∃ k : Nat, k ≤ 3 ∧ sideK ⟨#[c]⟩ = k ∧ Lib.indexByte [108, 100, 114, 117] c = (k : Int) := by
  rcases h with rfl | rfl | rfl | rfl
  · exact ⟨0, by omega, by simp [sideK], rfl⟩
  · exact ⟨1, by omega, by simp [sideK, one_inj], rfl⟩
  · exact ⟨2, by omega, by simp [sideK, one_inj], rfl⟩
  · exact ⟨3, by omega, by simp [sideK, one_inj], rfl⟩

set_option maxRecDepth 100000 in
set_option maxHeartbeats 2000000 in
theorem hoursBySun_any (A : Option Addr) (n c : Nat) (ss : List ByteArray) (s : ByteArray) (w : World) (hr : Rd w 1 A n (strCells ss)) (_hs : s.size ≤ maxLen) (hsz : ∀ s ∈ ss, s.size ≤ 9223372036854775807) :
    Calls Tryd.prog 21 #[.slice A n c, .string s] w fun e w' => e = .returned (.tuple #[.int .i64 (hrsR ss s : Nat), .bool (sdOk ss s)]) ∧ Below w.heap.size w w' := by
  have HG := Lib.hid (canShine_any A n c ss s w hr hsz)
  clear hsz
  cases hB : sdOk ss s
  · rw [hB] at HG
    rw [hrsR_no hB]
    go_enter Tryd.func21, Tryd.ntmps21
    go_wp2_with fail
    refine HG.out.mono ?_; rintro e w1 ⟨rfl, hb1⟩
    go_wp2
    go_ret2
    exact ⟨rfl, hb1⟩
  · rw [hB] at HG
    have hB2 := hB
    simp only [sdOk, Bool.and_eq_true] at hB2
    have hb := TB.of hB2.1
    rw [hr.slen] at hb
    rw [hrsR_yes hb hB]
    obtain ⟨ch, rfl, hch⟩ := sideB_true hB2.2
    obtain ⟨k, hk3, hkS, hkI⟩ := side_atC hch
    rw [hkS]
    have hn1 := hb.h1
    have hn10 := hb.h10
    have hW1 := hb.w1
    have hW10 := hb.w10
    generalize tabW ss = W at *
    have HIX := Lib.hid (fun wx => Tryd.strings_Index_one ⟨#[108, 100, 114, 117]⟩ ch wx)
    have HIE : Hid (Lib.indexByte (⟨#[108, 100, 114, 117]⟩ : ByteArray).data.toList ch = (k : Int)) := hkI
    rw [HIE.out] at HIX
    have hrF : Rd w 1 A n (strCells (tabF W n (tq ss))) := by rw [← hb.eq]; exact hr
    generalize tq ss = g at *
    have HT := Lib.hid (fun wx h => turnTab_any A n c W k g wx h hn1 hn10 hW1 hW10 (by omega))
    clear hB hB2 hch hkS hkI HIE
    have hW'1 : 1 ≤ tW W n k ∧ tW W n k ≤ 10 ∧ 1 ≤ tW n W k ∧ tW n W k ≤ 10 := by unfold tW; split <;> omega
    generalize tG W n g k = g2 at *
    generalize tW W n k = W2 at *
    generalize tW n W k = n2 at *
    obtain ⟨a1, a2, a3, a4⟩ := hW'1
    have HC : Hid (∀ (y : Nat) (wx : World), Calls Tryd.prog 46 #[.string (rowF W2 (g2 y)), .string ⟨#[35]⟩] wx fun e w' => e = .returned (.int .i64 (rowC W2 g2 y : Nat)) ∧ w' = wx) := by
      intro y wx
      have h := Tryd.strings_Count_one (rowF W2 (g2 y)) 35 wx
      rw [count_row] at h
      exact h
    have HCL : Hid (∀ y, rowC W2 g2 y ≤ 10) := fun y => Nat.le_trans (rowC_le _ _ _) a2
    have HML : Hid (∀ j, maxR (rowC W2 g2) j ≤ 10) := fun j => maxR_le.2 fun y _ => HCL.out y
    go_enter Tryd.func21, Tryd.ntmps21
    go_wp2_with fail
    refine HG.out.mono ?_; rintro e w1 ⟨rfl, hb1⟩
    have s1 := hb1.size
    go_wp2_with fail
    refine (HIX.out _).mono ?_; rintro e wx ⟨rfl, rfl⟩
    go_wp2_with fail
    refine (HT.out _ (hrF.later hb1 (Nat.le_refl _))).mono ?_; rintro e w2 ⟨A2, c2, rfl, own2, hb2⟩
    have hB := hb1.trans (hb2.mono s1)
    have hrd := Rd.of_own own2
    obtain ⟨gg, rfl, _, _⟩ := own_at own2 (by omega)
    clear own2 hb2 hb1
    go_wp2
    go_loop [6, 18] (fun h i => ∃ j t : Nat, j ≤ n2 ∧ t ≤ 10 ∧ Hid (t = maxR (rowC W2 g2) j) ∧ i = .int .i64 j ∧ h = .int .i64 t) (fun _ i => n2 - (intOf i).toNat)
    case atStart => exact ⟨0, 0, Nat.zero_le _, by omega, rfl, rfl, rfl⟩
    case round =>
      obtain ⟨j, t, hj, ht10, ht, rfl, rfl⟩ := hrel
      by_cases hlt : j < n2
      · obtain ⟨hx, p⟩ := hrd.strAt hlt
        have e3 : ∀ h, (tabF W2 n2 g2)[j]'h = rowF W2 (g2 j) := fun h => by simp [tabF]
        rw [e3] at p
        simp only [Nat.zero_add] at p
        have HCJ := Lib.hid (fun wx => HC.out j wx)
        have hc10 := HCL.out j
        have HMX : Hid (maxR (rowC W2 g2) (j + 1) = max (maxR (rowC W2 g2) j) (rowC W2 g2 j)) := rfl
        generalize rowC W2 g2 j = cj at *
        generalize rowF W2 (g2 j) = r0 at *
        have hmx : max (t : Int) (cj : Int) = ((max t cj : Nat) : Int) := by omega
        go_wp2_with fail
        refine (HCJ.out _).mono ?_; rintro e w4 ⟨rfl, rfl⟩
        go_wp2
        go_round
        case rel => exact ⟨j + 1, max t cj, by omega, by omega, by simp only [Hid]; rw [HMX.out, ht.out], by go_num, by go_num⟩
        case measure => simp [intOf]; omega
      · have hjn : j = n2 := by omega
        have ht2 : t = maxR (rowC W2 g2) n2 := by rw [ht.out, hjn]
        go_wp2
        go_ret2
        refine ⟨?_, hB⟩
        rw [← ht2]
        rfl

end Go.Proofs.YtieiakljholkaabDoor
