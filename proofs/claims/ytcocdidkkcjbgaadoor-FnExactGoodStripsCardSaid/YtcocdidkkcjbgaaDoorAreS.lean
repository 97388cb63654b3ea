/-
  Contracts: whether strips are, and their values put together, of the program and of the model; WinsStrips. Condition: where the program has laid its errors.
-/
import Derived.Test.YtcocdidkkcjbgaaDoorStv
import Derived.Test.YtcocdidkkcjbgaaDoorPlW
namespace Go.Proofs.YtcocdidkkcjbgaaDoor
open Go.RowKit
set_option linter.unusedVariables false
set_option linter.unusedSimpArgs false

def allS (L : List Int) : Bool := L.all fun n => inB n 1 60
def areS (L : List Int) : Bool := decide (1 ≤ L.length ∧ L.length ≤ 8) && allS L
theorem allS_at {L : List Int} (h : allS L = true) {k : Nat} (hk : k < L.length) : 1 ≤ L[k] ∧ L[k] ≤ 60 := inB_true (List.all_eq_true.1 h _ (List.getElem_mem hk))
theorem allS_take {L : List Int} {k : Nat} (h : k < L.length) : allS (L.take (k + 1)) = (allS (L.take k) && inB L[k] 1 60) := by
  unfold allS
  rw [List.take_succ_eq_append_getElem h, List.all_append]; simp
theorem allS_no {L : List Int} {k : Nat} (h : k < L.length) (hb : inB L[k] 1 60 = false) : allS L = false := by
  cases e : allS L
  · rfl
  · have := List.all_eq_true.1 e _ (List.getElem_mem h)
    rw [hb] at this; cases this
theorem areS_true {L : List Int} (h : areS L = true) : 1 ≤ L.length ∧ L.length ≤ 8 ∧ allS L = true := by
  simp [areS] at h; exact ⟨h.1.1, h.1.2, h.2⟩

theorem le_foldMax : ∀ (r : List Int) (a t : Int), t = a ∨ t ∈ r → t ≤ r.foldl max a
  | [], a, t, h => by rcases h with h | h <;> simp_all
  | x :: r, a, t, h => by
    rw [List.foldl_cons]
    rcases h with h | h
    · exact Int.le_trans (by omega) (le_foldMax r (max a x) (max a x) (.inl rfl))
    · rcases List.mem_cons.1 h with h | h
      · exact Int.le_trans (by omega) (le_foldMax r (max a x) (max a x) (.inl rfl))
      · exact le_foldMax r (max a x) t (.inr h)
theorem le_maxL {L : List Int} {t : Int} (h : t ∈ L) : t ≤ maxL L := by
  cases L with
  | nil => cases h
  | cons a r => exact le_foldMax r a t (List.mem_cons.1 h)
theorem maxL_in {L : List Int} (h : 1 ≤ L.length) (hA : allS L = true) : 1 ≤ maxL L ∧ maxL L ≤ 60 :=
  inB_true (List.all_eq_true.1 hA _ (maxL_mem (List.ne_nil_of_length_pos h)))

set_option maxRecDepth 100000 in
set_option maxHeartbeats 4000000 in
theorem areStrips_any (A : Option Addr) (n c : Nat) (L : List Int) (w : World) (hr : Rd w 1 A n (intCells L)) (hn : n ≤ 4000000000) :
    Calls Tryd.prog 34 #[.slice A n c] w fun e w' => e = .returned (.bool (areS L)) ∧ w = w' := by
  have HL := Lib.hid hr.ilen
  by_cases h1 : 1 ≤ n
  · by_cases h8 : n ≤ 8
    · have t1 : decide ((n : Int) < 1) = false := by simp; omega
      have t2 : decide ((8 : Int) < (n : Int)) = false := by simp; omega
      go_enter Tryd.func34, Tryd.ntmps34
      go_wp2
      go_loop [15] (fun i => ∃ k : Nat, k ≤ n ∧ i = .int .i64 k ∧ Hid (allS (L.take k) = true)) (fun i => n - (intOf i).toNat)
      case atStart => exact ⟨0, Nat.zero_le _, rfl, by simp [Hid, allS]⟩
      case round =>
        obtain ⟨k, hk, rfl, hA⟩ := hrel
        by_cases hlt : k < n
        · obtain ⟨b, o, rfl, hbl, hx, p1⟩ := hr.num hlt
          have HS := Lib.hid (allS_take hx)
          have HNo : Hid (inB L[k] 1 60 = false → allS L = false) := fun h => allS_no hx h
          generalize L[k] = x at *
          cases hb : inB x 1 60
          · have HF := Lib.hid (HNo.out hb)
            go_wp2_with fail
            refine (isLen_any _ _).mono ?_; rintro e wx ⟨rfl, rfl⟩
            go_wp2
            go_ret
            exact ⟨ret_bool (by simp [areS, HF.out]), rfl⟩
          · have hA2 := HS.out
            rw [hb, hA.out] at hA2
            have HA2 := Lib.hid hA2
            clear hA2
            go_wp2_with fail
            refine (isLen_any _ _).mono ?_; rintro e wx ⟨rfl, rfl⟩
            go_wp2
            go_round
            case rel => exact ⟨k + 1, by omega, by go_num, HA2⟩
            case measure => simp [intOf]; omega
        · go_wp2
          go_ret
          have hA := hA.out
          have hL := HL.out
          rw [List.take_of_length_le (by omega)] at hA
          exact ⟨ret_bool (by simp [areS, hA, hL, h1, h8]), rfl⟩
    · have t1 : decide ((n : Int) < 1) = false := by simp; omega
      have t2 : decide ((8 : Int) < (n : Int)) = true := by simp; omega
      go_enter Tryd.func34, Tryd.ntmps34
      go_wp2
      go_ret
      have hL := HL.out
      exact ⟨ret_bool (by simp [areS, hL, h8]), rfl⟩
  · have t1 : decide ((n : Int) < 1) = true := by simp; omega
    go_enter Tryd.func34, Tryd.ntmps34
    go_wp2
    go_ret
    have hL := HL.out
    exact ⟨ret_bool (by simp [areS, hL]; omega), rfl⟩

set_option maxRecDepth 100000 in
set_option maxHeartbeats 4000000 in
theorem l1All_any (A : Option Addr) (n c : Nat) (L : List Int) (w : World) (hr : Rd w 1 A n (intCells L)) (hn : n ≤ 4000000000) :
    Calls Tryd.prog 55 #[.slice A n c, .int .i64 1, .int .i64 60] w fun e w' => e = .returned (.bool (allS L)) ∧ w = w' := by
  have HL := Lib.hid hr.ilen
  go_enter Tryd.func55, Tryd.ntmps55
  go_wp2
  go_loop [11] (fun i => ∃ k : Nat, k ≤ n ∧ i = .int .i64 k ∧ Hid (allS (L.take k) = true)) (fun i => n - (intOf i).toNat)
  case atStart => exact ⟨0, Nat.zero_le _, rfl, by simp [Hid, allS]⟩
  case round =>
    obtain ⟨k, hk, rfl, hA⟩ := hrel
    by_cases hlt : k < n
    · obtain ⟨b, o, rfl, hbl, hx, p1⟩ := hr.num hlt
      have HS := Lib.hid (allS_take hx)
      have HNo : Hid (inB L[k] 1 60 = false → allS L = false) := fun h => allS_no hx h
      generalize L[k] = x at *
      cases hb : inB x 1 60
      · have HF := Lib.hid (HNo.out hb)
        go_wp2_with fail
        refine (l1In_any _ _ _ _).mono ?_; rintro e wx ⟨rfl, rfl⟩
        go_wp2
        go_ret
        exact ⟨ret_bool HF.out.symm, rfl⟩
      · have hA2 := HS.out
        rw [hb, hA.out] at hA2
        have HA2 := Lib.hid hA2
        clear hA2
        go_wp2_with fail
        refine (l1In_any _ _ _ _).mono ?_; rintro e wx ⟨rfl, rfl⟩
        go_wp2
        go_round
        case rel => exact ⟨k + 1, by omega, by go_num, HA2⟩
        case measure => simp [intOf]; omega
    · go_wp2
      go_ret
      have hA := hA.out
      rw [List.take_of_length_le (by rw [HL.out]; omega)] at hA
      exact ⟨ret_bool hA.symm, rfl⟩

def okSS (L : List Int) (l : Int) : Bool := areS L && inB l 1 60
set_option maxHeartbeats 1000000 in
theorem laStrips_any (A : Option Addr) (n c : Nat) (L : List Int) (l : Int) (w : World) (hr : Rd w 1 A n (intCells L)) (hn : n ≤ 4000000000) :
    Calls Tryd.prog 30 #[.slice A n c, .int .i64 l] w fun e w' => e = .returned (.bool (okSS L l)) ∧ w = w' := by
  have hll := hr.ilen
  by_cases hin : 1 ≤ n ∧ n ≤ 8
  · have hi : inB (n : Int) 1 8 = true := by simp [inB]; omega
    have hd : decide (1 ≤ L.length ∧ L.length ≤ 8) = true := by simp; omega
    have HD := Lib.hid hd
    clear hd hll
    cases ha : allS L
    · have hk : okSS L l = false := by simp [okSS, areS, ha]
      rw [hk]
      go_enter Tryd.func30, Tryd.ntmps30
      go_wp2_with fail
      refine (l1In_any _ _ _ _).mono ?_; rintro e wx ⟨rfl, rfl⟩
      go_wp2_with fail
      refine (l1All_any _ _ _ L _ hr hn).mono ?_; rintro e wx ⟨rfl, rfl⟩
      go_wp2
      go_ret
      exact ⟨rfl, rfl⟩
    · have hk : okSS L l = inB l 1 60 := by simp only [okSS, areS, ha, HD.out]; simp
      rw [hk]
      go_enter Tryd.func30, Tryd.ntmps30
      go_wp2_with fail
      refine (l1In_any _ _ _ _).mono ?_; rintro e wx ⟨rfl, rfl⟩
      go_wp2_with fail
      refine (l1All_any _ _ _ L _ hr hn).mono ?_; rintro e wx ⟨rfl, rfl⟩
      go_wp2_with fail
      refine (l1In_any _ _ _ _).mono ?_; rintro e wx ⟨rfl, rfl⟩
      go_wp2
      go_ret
      exact ⟨rfl, rfl⟩
  · have hi : inB (n : Int) 1 8 = false := by simp [inB]; omega
    have hk : okSS L l = false := by simp [okSS, areS]; omega
    rw [hk]
    clear hll
    go_enter Tryd.func30, Tryd.ntmps30
    go_wp2_with fail
    refine (l1In_any _ _ _ _).mono ?_; rintro e wx ⟨rfl, rfl⟩
    go_wp2
    go_ret
    exact ⟨rfl, rfl⟩

/-- the values put together -/
def xsT (l : Int) (u : Bool) (L : List Int) (k : Nat) : Int := ((L.take k).map fun t => vS l u t.toNat).foldl xr 0
theorem xr_in {a b : Int} (ha : 0 ≤ a) (ha2 : a ≤ 31) (hb : 0 ≤ b) (hb2 : b ≤ 31) : 0 ≤ xr a b ∧ xr a b ≤ 31 := by
  have h : a.toNat ^^^ b.toNat < 32 := Nat.xor_lt_two_pow (n := 5) (by omega) (by omega)
  unfold xr
  omega
theorem xsT_succ {l : Int} {u : Bool} {L : List Int} {k : Nat} (h : k < L.length) : xsT l u L (k + 1) = xr (xsT l u L k) (vS l u (L[k]).toNat) := by
  unfold xsT
  rw [List.take_succ_eq_append_getElem h, List.map_append, List.foldl_append]
  rfl
theorem xsT_in {l : Int} {u : Bool} {L : List Int} (h : allS L = true) : ∀ k, k ≤ L.length → 0 ≤ xsT l u L k ∧ xsT l u L k ≤ 31
  | 0, _ => by simp [xsT]
  | k + 1, hk => by
    rw [xsT_succ (by omega)]
    obtain ⟨a, b⟩ := xsT_in h k (by omega)
    have hx := allS_at h (show k < L.length by omega)
    obtain ⟨c, d⟩ := vS_in (l := l) (u := u) (n := (L[k]).toNat) (by omega)
    exact xr_in a b c d
def xsA (l : Int) (u : Bool) (L : List Int) : Int := xsT l u L L.length

set_option maxRecDepth 100000 in
set_option maxHeartbeats 4000000 in
theorem laAll_any (A : Option Addr) (n c g : Nat) (L : List Int) (l : Int) (u : Bool) (B : Nat) (w : World) (hr : Rd w 1 A n (intCells L)) (hn : n ≤ 4000000000) (hA : allS L = true) (hv : w.ownsRow B 3 1 (.slice (some ⟨g, 0, none⟩) 61 61) 61 (intCells (tabF (vS l u) 60))) :
    Calls Tryd.prog 32 #[.slice A n c, .slice (some ⟨g, 0, none⟩) 61 61] w fun e w' => e = .returned (.int .i64 (xsA l u L)) ∧ w = w' := by
  have HL := Lib.hid hr.ilen
  have HA := Lib.hid hA
  have HI := Lib.hid (xsT_in (l := l) (u := u) hA)
  have HV := Lib.hid hv
  clear hA hv
  go_enter Tryd.func32, Tryd.ntmps32
  go_wp2
  go_loop [5, 10] (fun s i => ∃ k : Nat, k ≤ n ∧ i = .int .i64 k ∧ s = .int .i64 (xsT l u L k)) (fun _ i => n - (intOf i).toNat)
  case atStart => exact ⟨0, Nat.zero_le _, rfl, rfl⟩
  case round =>
    obtain ⟨k, hk, rfl, rfl⟩ := hrel
    by_cases hlt : k < n
    · obtain ⟨b, o, rfl, hbl, hx, p1⟩ := hr.num hlt
      have HE := Lib.hid (xsT_succ (l := l) (u := u) hx)
      obtain ⟨i1, i2⟩ := HI.out k (by rw [HL.out]; exact hk)
      have hxb := allS_at HA.out hx
      generalize L[k] = x at *
      obtain ⟨X, rfl⟩ : ∃ X : Nat, x = X := ⟨x.toNat, by omega⟩
      simp only [Int.toNat_natCast] at HE
      have hc := HV.out.cellAt X (by omega)
      rw [tabF_cell _ (by omega)] at hc
      obtain ⟨v1, v2⟩ := vS_in (l := l) (u := u) (n := X) (by omega)
      have X1 := xr_bits i1 i2 v1 v2
      have y1 : (X : Int) < 61 := by omega
      have y2 : (0 : Int) ≤ (X : Int) := by omega
      have y3 : X < 61 := by omega
      generalize vS l u X = v at *
      generalize xsT l u L k = s at *
      generalize hq : xr s v = q at *
      have HQ := Lib.hid hq
      clear i1 i2 v1 v2 hxb hq
      go_wp2
      go_round
      case rel => exact ⟨k + 1, by omega, by go_num, by rw [HE.out]⟩
      case measure => simp [intOf]; omega
    · go_wp2
      go_ret
      obtain rfl : k = n := by omega
      exact ⟨ret_int (by rw [xsA, HL.out]), rfl⟩

set_option maxRecDepth 100000 in
set_option maxHeartbeats 4000000 in
theorem valueOfStrips_any (A : Option Addr) (n c : Nat) (L : List Int) (l : Int) (u : Bool) (F : Nat → Int) (w : World) (hr : Rd w 1 A n (intCells L)) (hn : n ≤ 4000000000) (hA : allS L = true) (hF : ∀ t ∈ L, F t.toNat = vS l u t.toNat) :
    Calls Tryd.prog 38 #[.slice A n c, .agg (arrN F)] w fun e w' => e = .returned (.int .i64 (xsA l u L)) ∧ Below w.heap.size w w' := by
  have HL := Lib.hid hr.ilen
  have HA := Lib.hid hA
  have HF := Lib.hid hF
  have HI := Lib.hid (xsT_in (l := l) (u := u) hA)
  have HR := Lib.hid (RowN.new w F)
  have bw : Below w.heap.size w (w.alloc (.cells (arrN F) 63)) := by (repeat (first | (with_reducible exact Below.refl _ _) | (with_reducible assumption) | (with_reducible refine Below.drew ?_) | ((with_reducible refine balloc ?_ _ ?_); · (first | (simp; done) | (simp; omega) | omega)) | ((with_reducible refine bset ?_ _ ?_); · (first | (simp; done) | (simp; omega) | omega)) | (with_reducible refine bdrewN _ ?_) | ((with_reducible refine bcall ?_ (by assumption) ?_); · (first | (simp; done) | (simp; omega) | omega))))
  have hr1 := hr.alloc (.cells (arrN F) 63)
  clear hA hF
  go_enter Tryd.func38, Tryd.ntmps38
  go_wp2
  go_loop [5, 10] (fun s i => ∃ k : Nat, k ≤ n ∧ i = .int .i64 k ∧ s = .int .i64 (xsT l u L k)) (fun _ i => n - (intOf i).toNat)
  case atStart => exact ⟨0, Nat.zero_le _, rfl, rfl⟩
  case round =>
    obtain ⟨k, hk, rfl, rfl⟩ := hrel
    by_cases hlt : k < n
    · obtain ⟨b, o, rfl, hbl, hx, p1⟩ := hr1.num hlt
      have HE := Lib.hid (xsT_succ (l := l) (u := u) hx)
      obtain ⟨i1, i2⟩ := HI.out k (by rw [HL.out]; exact hk)
      have hxb := allS_at HA.out hx
      have hfx := HF.out L[k] (List.getElem_mem hx)
      generalize L[k] = x at *
      obtain ⟨X, rfl⟩ : ∃ X : Nat, x = X := ⟨x.toNat, by omega⟩
      simp only [Int.toNat_natCast] at HE hfx
      have hc := HR.out.cell (k := X) (by omega)
      rw [hfx] at hc
      obtain ⟨v1, v2⟩ := vS_in (l := l) (u := u) (n := X) (by omega)
      have y1 : (X : Int) < 61 := by omega
      have y2 : (0 : Int) ≤ (X : Int) := by omega
      have y3 : X < 61 := by omega
      generalize vS l u X = v at *
      generalize xsT l u L k = s at *
      have HP := Lib.hid (fun wx => valueOfPair_any s v wx ⟨i1, i2⟩ ⟨v1, v2⟩)
      clear i1 i2 v1 v2 hxb hfx
      go_wp2_with fail
      refine (HP.out _).mono ?_; rintro e wx ⟨rfl, rfl⟩
      generalize hq : xr s v = q at *
      have HQ := Lib.hid hq
      clear hq
      go_wp2
      go_round
      case rel => exact ⟨k + 1, by omega, by go_num, by rw [HE.out]⟩
      case measure => simp [intOf]; omega
    · go_wp2
      go_ret
      obtain rfl : k = n := by omega
      exact ⟨ret_int (by rw [xsA, HL.out]), bw⟩
end Go.Proofs.YtcocdidkkcjbgaaDoor
