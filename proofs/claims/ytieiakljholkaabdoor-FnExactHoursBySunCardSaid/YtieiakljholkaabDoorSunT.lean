/-
  Contracts: a tablet behind an hour of a sun, of the model, one theorem a side.
-/
import Derived.Test.YtieiakljholkaabDoorBiteT
import Derived.Test.YtieiakljholkaabDoorSunW
namespace Go.Proofs.YtieiakljholkaabDoor
open Go.RowKit
set_option linter.unusedVariables false
set_option linter.unusedSimpArgs false

theorem str_ne {a b : UInt8} (h : (a == b) = false) : ((⟨#[a]⟩ : ByteArray).toList == (⟨#[b]⟩ : ByteArray).toList) = false := by
  rw [Lib.toList_data, Lib.toList_data]
  show ([a] == [b]) = false
  simp_all
theorem str_eq (a : UInt8) : ((⟨#[a]⟩ : ByteArray).toList == (⟨#[a]⟩ : ByteArray).toList) = true := by simp

set_option maxRecDepth 100000 in
set_option maxHeartbeats 4000000 in
theorem mlSun_u (A : Option Addr) (n c W : Nat) (ss : List ByteArray) (w : World) (hr : Rd w 1 A n (strCells ss)) (hb : TB ss W n) :
    Calls Tryd.prog 39 #[.slice A n c, .string ⟨#[117]⟩] w fun e w' => ∃ A' c', e = .returned (.slice A' n c') ∧ w'.ownsRow w.heap.size 9 1 (.slice A' n c') n (strCells (tabF W n (sunG W n 3 (tq ss)))) ∧ Below w.heap.size w w' := by
  have hn1 := hb.h1
  have hn10 := hb.h10
  have hW1 := hb.w1
  have hW10 := hb.w10
  have hL : Lines W n W n uPy uPx uLo uPo := lines_u W n
  obtain ⟨b, o, rfl, hbl, s00, p00, hs00⟩ := hr.tab0 hb
  have hs00' : s00.size = W := hs00.out
  have HI := Lib.hid (mlIs_any _ n c W ss w hr hb)
  obtain ⟨M, hM⟩ : ∃ M, Hid (M = n * W) := ⟨_, rfl⟩
  have hM100 : M ≤ 100 := by rw [hM.out]; exact Nat.mul_le_mul hn10 hW10
  have hM1 : 0 < M := by rw [hM.out]; exact Nat.mul_pos hn1 hW1
  rw [← hM.out] at HI
  have k1 : ((⟨#[117]⟩ : ByteArray).toList == (⟨#[108]⟩ : ByteArray).toList) = false := by first | exact str_eq _ | exact str_ne rfl
  have k2 : ((⟨#[117]⟩ : ByteArray).toList == (⟨#[114]⟩ : ByteArray).toList) = false := by first | exact str_eq _ | exact str_ne rfl
  have k3 : ((⟨#[117]⟩ : ByteArray).toList == (⟨#[100]⟩ : ByteArray).toList) = false := by first | exact str_eq _ | exact str_ne rfl
  go_enter Tryd.func39, Tryd.ntmps39
  go_wp2_with fail
  refine HI.out.mono ?_; rintro e w1 ⟨A1, c1, rfl, own1, hb1⟩
  have s1 := hb1.size
  have hcap := own_capT own1
  obtain ⟨g, rfl, hg1, hg2⟩ := own_at own1 hM1
  have p1 : w1.cell? ⟨b, o, none⟩ = some (.string s00) := (hb1.cell (p := ⟨b, o, none⟩) hbl).trans p00
  go_wp2
  go_loopw [10] (fun v wr => ∃ l : Nat, l ≤ W ∧ v = .int .i64 l ∧ wr.ownsRow w.heap.size 4 1 (.slice (some ⟨g, 0, none⟩) M c1) M (boolCells (isF W M (sunP uPy uPx uLo uPo (tq ss) l))) ∧ Below w.heap.size w wr) (fun v _ => W - (intOf v).toNat)
  case atStart => exact ⟨0, Nat.zero_le _, rfl, by rw [sunP_zero]; exact own1, hb1⟩
  case round =>
    clear own1
    obtain ⟨l, hl, rfl, hown, hB⟩ := hrel
    have sB := hB.size
    by_cases hlt : l < W
    · go_wp2
      go_loop [11] (fun v => ∃ i : Nat, i ≤ n ∧ v = .int .i64 i ∧ Hid (∀ j, j < i → tq ss (uPy l j) (uPx l j) = false)) (fun v => n - (intOf v).toNat)
      case atStart => exact ⟨0, Nat.zero_le _, rfl, fun j hj => absurd hj (Nat.not_lt_zero _)⟩
      case round =>
        obtain ⟨i, hi, rfl, h0⟩ := hrel
        by_cases hli : i < n
        · obtain ⟨ey, ex, _, _⟩ := hL.back l i hlt hli
          have hpos := Lib.hid (lin_lt ey ex)
          have hat : Hid (sunP uPy uPx uLo uPo (tq ss) l (uPy l i) (uPx l i) = tq ss (uPy l i) (uPx l i)) := sunP_at hL hlt hli
          have hdm := Lib.hid (divmod_at (W := W) (y := uPy l i) ex)
          obtain ⟨q, hq⟩ : ∃ q : Nat, Hid (q = (i) * W) := ⟨_, rfl⟩
          have hqM : q + l < M := by rw [hq.out, hM.out]; exact hpos.out
          have hqi : (i : Int) * (W : Int) = (q : Int) := by have e : ((i : Nat) : Int) = (i : Int) := (by omega); rw [hq.out, Int.natCast_mul, e]
          have hlen : q + l < (boolCells (isF W M (sunP uPy uPx uLo uPo (tq ss) l))).length := by rw [length_boolCells, length_isF]; exact hqM
          have a0 := hown.cellAt (q + l) (by omega)
          have e0 : (boolCells (isF W M (sunP uPy uPx uLo uPo (tq ss) l)))[q + l]? = some (.bool (tq ss (uPy l i) (uPx l i))) := by
            have e1 : (isF W M (sunP uPy uPx uLo uPo (tq ss) l))[q + l]? = some (sunP uPy uPx uLo uPo (tq ss) l ((q + l) / W) ((q + l) % W)) := by
              rw [List.getElem?_eq_getElem (by rw [length_isF]; exact hqM), isF_at]
            have d1 : (q + l) / W = uPy l i := by rw [hq.out]; exact hdm.out.1
            have d2 : (q + l) % W = uPx l i := by rw [hq.out]; exact hdm.out.2
            rw [d1, d2, hat.out] at e1
            simp only [boolCells, List.getElem?_map, e1, Option.map_some]
          rw [e0] at a0
          clear e0 hlen
          have HF := Lib.hid (fun (h1 : tq ss (uPy l i) (uPx l i) = true) => sunP_found hL hlt hli h0.out h1)
          have HN : Hid (tq ss (uPy l i) (uPx l i) = false → ∀ j, j < i + 1 → tq ss (uPy l j) (uPx l j) = false) := by
            intro h j hj
            rcases Nat.lt_or_ge j i with h2 | h2
            · exact h0.out j h2
            · have : j = i := by omega
              rw [this]; exact h
          have f0 := hown.frozenAt (q + l)
          have st := hown.stored (q + l) (.bool false)
          have hset : (boolCells (isF W M (sunP uPy uPx uLo uPo (tq ss) l))).set (q + l) (.bool false) = boolCells (isF W M (bite (sunP uPy uPx uLo uPo (tq ss) l) (uPy l i) (uPx l i))) := by
            rw [set_boolCells, hq.out]; exact congrArg boolCells (isF_set (y := uPy l i) ex)
          rw [hset] at st
          have ST := Lib.hid st.1
          clear st hset
          cases hv : tq ss (uPy l i) (uPx l i)
          · rw [hv] at a0
            have HN2 := Lib.hid (HN.out hv)
            clear HF ST hv
            go_wp2
            go_round
            case rel => exact ⟨i + 1, by omega, by go_num, HN2⟩
            case measure => simp [intOf]; omega
          · rw [hv] at a0
            have HF2 : Hid (isF W M (bite (sunP uPy uPx uLo uPo (tq ss) l) (uPy l i) (uPx l i)) = isF W M (sunP uPy uPx uLo uPo (tq ss) (l + 1))) := by
              simp only [Hid]; rw [hM.out]; exact isF_congr hW1 (HF.out hv)
            clear HN hv
            go_wp2
            go_roundw
            case rel => exact ⟨l + 1, by omega, by go_num, by rw [← HF2.out]; exact ST.out, bset hg1 _ hB⟩
            case measure => simp [intOf]; omega
        · have h0L : ∀ j, j < n → tq ss (uPy l j) (uPx l j) = false := fun j hj => h0.out j (by omega)
          have HF2 : Hid (isF W M (sunP uPy uPx uLo uPo (tq ss) l) = isF W M (sunP uPy uPx uLo uPo (tq ss) (l + 1))) := by
            simp only [Hid]; rw [hM.out]; exact isF_congr hW1 (sunP_none hL h0L)
          clear h0L
          go_wp2
          go_roundw
          case rel => exact ⟨l + 1, by omega, by go_num, by rw [← HF2.out]; exact hown, hB⟩
          case measure => simp [intOf]; omega
    · have hle : l = W := by omega
      rw [hle] at hown
      have HE : Hid (isF W M (sunP uPy uPx uLo uPo (tq ss) W) = isF W M (sunG W n 3 (tq ss))) := by
        simp only [Hid]; rw [hM.out]; exact isF_congr hW1 (sunP_end hL)
      rw [HE.out] at hown
      go_wp2_with fail
      refine (mlOf_any _ M c1 W n (sunG W n 3 (tq ss)) _ hM.out (Rd.of_own hown) hcap hW1 hW10 hn1 hn10).mono ?_; rintro e w2 ⟨A2, c2, rfl, own2, hb2⟩
      go_wp2
      go_ret
      exact ⟨A2, c2, rfl, own_base own2 sB, hB.trans (hb2.mono sB)⟩

set_option maxRecDepth 100000 in
set_option maxHeartbeats 4000000 in
theorem mlSun_d (A : Option Addr) (n c W : Nat) (ss : List ByteArray) (w : World) (hr : Rd w 1 A n (strCells ss)) (hb : TB ss W n) :
    Calls Tryd.prog 39 #[.slice A n c, .string ⟨#[100]⟩] w fun e w' => ∃ A' c', e = .returned (.slice A' n c') ∧ w'.ownsRow w.heap.size 9 1 (.slice A' n c') n (strCells (tabF W n (sunG W n 1 (tq ss)))) ∧ Below w.heap.size w w' := by
  have hn1 := hb.h1
  have hn10 := hb.h10
  have hW1 := hb.w1
  have hW10 := hb.w10
  have hL : Lines W n W n (dPy n) uPx uLo (dPo n) := lines_d W n
  obtain ⟨b, o, rfl, hbl, s00, p00, hs00⟩ := hr.tab0 hb
  have hs00' : s00.size = W := hs00.out
  have HI := Lib.hid (mlIs_any _ n c W ss w hr hb)
  obtain ⟨M, hM⟩ : ∃ M, Hid (M = n * W) := ⟨_, rfl⟩
  have hM100 : M ≤ 100 := by rw [hM.out]; exact Nat.mul_le_mul hn10 hW10
  have hM1 : 0 < M := by rw [hM.out]; exact Nat.mul_pos hn1 hW1
  rw [← hM.out] at HI
  have k1 : ((⟨#[100]⟩ : ByteArray).toList == (⟨#[108]⟩ : ByteArray).toList) = false := by first | exact str_eq _ | exact str_ne rfl
  have k2 : ((⟨#[100]⟩ : ByteArray).toList == (⟨#[114]⟩ : ByteArray).toList) = false := by first | exact str_eq _ | exact str_ne rfl
  have k3 : ((⟨#[100]⟩ : ByteArray).toList == (⟨#[100]⟩ : ByteArray).toList) = true := by first | exact str_eq _ | exact str_ne rfl
  go_enter Tryd.func39, Tryd.ntmps39
  go_wp2_with fail
  refine HI.out.mono ?_; rintro e w1 ⟨A1, c1, rfl, own1, hb1⟩
  have s1 := hb1.size
  have hcap := own_capT own1
  obtain ⟨g, rfl, hg1, hg2⟩ := own_at own1 hM1
  have p1 : w1.cell? ⟨b, o, none⟩ = some (.string s00) := (hb1.cell (p := ⟨b, o, none⟩) hbl).trans p00
  go_wp2
  go_loopw [10] (fun v wr => ∃ l : Nat, l ≤ W ∧ v = .int .i64 l ∧ wr.ownsRow w.heap.size 4 1 (.slice (some ⟨g, 0, none⟩) M c1) M (boolCells (isF W M (sunP (dPy n) uPx uLo (dPo n) (tq ss) l))) ∧ Below w.heap.size w wr) (fun v _ => W - (intOf v).toNat)
  case atStart => exact ⟨0, Nat.zero_le _, rfl, by rw [sunP_zero]; exact own1, hb1⟩
  case round =>
    clear own1
    obtain ⟨l, hl, rfl, hown, hB⟩ := hrel
    have sB := hB.size
    by_cases hlt : l < W
    · go_wp2
      go_loop [11] (fun v => ∃ i : Nat, i ≤ n ∧ v = .int .i64 i ∧ Hid (∀ j, j < i → tq ss (dPy n l j) (uPx l j) = false)) (fun v => n - (intOf v).toNat)
      case atStart => exact ⟨0, Nat.zero_le _, rfl, fun j hj => absurd hj (Nat.not_lt_zero _)⟩
      case round =>
        obtain ⟨i, hi, rfl, h0⟩ := hrel
        by_cases hli : i < n
        · obtain ⟨ey, ex, _, _⟩ := hL.back l i hlt hli
          have hpos := Lib.hid (lin_lt ey ex)
          have hat : Hid (sunP (dPy n) uPx uLo (dPo n) (tq ss) l (dPy n l i) (uPx l i) = tq ss (dPy n l i) (uPx l i)) := sunP_at hL hlt hli
          have hdm := Lib.hid (divmod_at (W := W) (y := dPy n l i) ex)
          obtain ⟨q, hq⟩ : ∃ q : Nat, Hid (q = (n - 1 - i) * W) := ⟨_, rfl⟩
          have hqM : q + l < M := by rw [hq.out, hM.out]; exact hpos.out
          have hqi : ((n : Int) - 1 - (i : Int)) * (W : Int) = (q : Int) := by have e : ((n - 1 - i : Nat) : Int) = ((n : Int) - 1 - (i : Int)) := (by omega); rw [hq.out, Int.natCast_mul, e]
          have hlen : q + l < (boolCells (isF W M (sunP (dPy n) uPx uLo (dPo n) (tq ss) l))).length := by rw [length_boolCells, length_isF]; exact hqM
          have a0 := hown.cellAt (q + l) (by omega)
          have e0 : (boolCells (isF W M (sunP (dPy n) uPx uLo (dPo n) (tq ss) l)))[q + l]? = some (.bool (tq ss (dPy n l i) (uPx l i))) := by
            have e1 : (isF W M (sunP (dPy n) uPx uLo (dPo n) (tq ss) l))[q + l]? = some (sunP (dPy n) uPx uLo (dPo n) (tq ss) l ((q + l) / W) ((q + l) % W)) := by
              rw [List.getElem?_eq_getElem (by rw [length_isF]; exact hqM), isF_at]
            have d1 : (q + l) / W = dPy n l i := by rw [hq.out]; exact hdm.out.1
            have d2 : (q + l) % W = uPx l i := by rw [hq.out]; exact hdm.out.2
            rw [d1, d2, hat.out] at e1
            simp only [boolCells, List.getElem?_map, e1, Option.map_some]
          rw [e0] at a0
          clear e0 hlen
          have HF := Lib.hid (fun (h1 : tq ss (dPy n l i) (uPx l i) = true) => sunP_found hL hlt hli h0.out h1)
          have HN : Hid (tq ss (dPy n l i) (uPx l i) = false → ∀ j, j < i + 1 → tq ss (dPy n l j) (uPx l j) = false) := by
            intro h j hj
            rcases Nat.lt_or_ge j i with h2 | h2
            · exact h0.out j h2
            · have : j = i := by omega
              rw [this]; exact h
          have f0 := hown.frozenAt (q + l)
          have st := hown.stored (q + l) (.bool false)
          have hset : (boolCells (isF W M (sunP (dPy n) uPx uLo (dPo n) (tq ss) l))).set (q + l) (.bool false) = boolCells (isF W M (bite (sunP (dPy n) uPx uLo (dPo n) (tq ss) l) (dPy n l i) (uPx l i))) := by
            rw [set_boolCells, hq.out]; exact congrArg boolCells (isF_set (y := dPy n l i) ex)
          rw [hset] at st
          have ST := Lib.hid st.1
          clear st hset
          cases hv : tq ss (dPy n l i) (uPx l i)
          · rw [hv] at a0
            have HN2 := Lib.hid (HN.out hv)
            clear HF ST hv
            go_wp2
            go_round
            case rel => exact ⟨i + 1, by omega, by go_num, HN2⟩
            case measure => simp [intOf]; omega
          · rw [hv] at a0
            have HF2 : Hid (isF W M (bite (sunP (dPy n) uPx uLo (dPo n) (tq ss) l) (dPy n l i) (uPx l i)) = isF W M (sunP (dPy n) uPx uLo (dPo n) (tq ss) (l + 1))) := by
              simp only [Hid]; rw [hM.out]; exact isF_congr hW1 (HF.out hv)
            clear HN hv
            go_wp2
            go_roundw
            case rel => exact ⟨l + 1, by omega, by go_num, by rw [← HF2.out]; exact ST.out, bset hg1 _ hB⟩
            case measure => simp [intOf]; omega
        · have h0L : ∀ j, j < n → tq ss (dPy n l j) (uPx l j) = false := fun j hj => h0.out j (by omega)
          have HF2 : Hid (isF W M (sunP (dPy n) uPx uLo (dPo n) (tq ss) l) = isF W M (sunP (dPy n) uPx uLo (dPo n) (tq ss) (l + 1))) := by
            simp only [Hid]; rw [hM.out]; exact isF_congr hW1 (sunP_none hL h0L)
          clear h0L
          go_wp2
          go_roundw
          case rel => exact ⟨l + 1, by omega, by go_num, by rw [← HF2.out]; exact hown, hB⟩
          case measure => simp [intOf]; omega
    · have hle : l = W := by omega
      rw [hle] at hown
      have HE : Hid (isF W M (sunP (dPy n) uPx uLo (dPo n) (tq ss) W) = isF W M (sunG W n 1 (tq ss))) := by
        simp only [Hid]; rw [hM.out]; exact isF_congr hW1 (sunP_end hL)
      rw [HE.out] at hown
      go_wp2_with fail
      refine (mlOf_any _ M c1 W n (sunG W n 1 (tq ss)) _ hM.out (Rd.of_own hown) hcap hW1 hW10 hn1 hn10).mono ?_; rintro e w2 ⟨A2, c2, rfl, own2, hb2⟩
      go_wp2
      go_ret
      exact ⟨A2, c2, rfl, own_base own2 sB, hB.trans (hb2.mono sB)⟩

set_option maxRecDepth 100000 in
set_option maxHeartbeats 4000000 in
theorem mlSun_l (A : Option Addr) (n c W : Nat) (ss : List ByteArray) (w : World) (hr : Rd w 1 A n (strCells ss)) (hb : TB ss W n) :
    Calls Tryd.prog 39 #[.slice A n c, .string ⟨#[108]⟩] w fun e w' => ∃ A' c', e = .returned (.slice A' n c') ∧ w'.ownsRow w.heap.size 9 1 (.slice A' n c') n (strCells (tabF W n (sunG W n 0 (tq ss)))) ∧ Below w.heap.size w w' := by
  have hn1 := hb.h1
  have hn10 := hb.h10
  have hW1 := hb.w1
  have hW10 := hb.w10
  have hL : Lines W n n W lPy lPx lLo lPo := lines_l W n
  obtain ⟨b, o, rfl, hbl, s00, p00, hs00⟩ := hr.tab0 hb
  have hs00' : s00.size = W := hs00.out
  have HI := Lib.hid (mlIs_any _ n c W ss w hr hb)
  obtain ⟨M, hM⟩ : ∃ M, Hid (M = n * W) := ⟨_, rfl⟩
  have hM100 : M ≤ 100 := by rw [hM.out]; exact Nat.mul_le_mul hn10 hW10
  have hM1 : 0 < M := by rw [hM.out]; exact Nat.mul_pos hn1 hW1
  rw [← hM.out] at HI
  have k1 : ((⟨#[108]⟩ : ByteArray).toList == (⟨#[108]⟩ : ByteArray).toList) = true := by first | exact str_eq _ | exact str_ne rfl
  have k2 : ((⟨#[108]⟩ : ByteArray).toList == (⟨#[114]⟩ : ByteArray).toList) = false := by first | exact str_eq _ | exact str_ne rfl
  have k3 : ((⟨#[108]⟩ : ByteArray).toList == (⟨#[100]⟩ : ByteArray).toList) = false := by first | exact str_eq _ | exact str_ne rfl
  go_enter Tryd.func39, Tryd.ntmps39
  go_wp2_with fail
  refine HI.out.mono ?_; rintro e w1 ⟨A1, c1, rfl, own1, hb1⟩
  have s1 := hb1.size
  have hcap := own_capT own1
  obtain ⟨g, rfl, hg1, hg2⟩ := own_at own1 hM1
  have p1 : w1.cell? ⟨b, o, none⟩ = some (.string s00) := (hb1.cell (p := ⟨b, o, none⟩) hbl).trans p00
  go_wp2
  go_loopw [10] (fun v wr => ∃ l : Nat, l ≤ n ∧ v = .int .i64 l ∧ wr.ownsRow w.heap.size 4 1 (.slice (some ⟨g, 0, none⟩) M c1) M (boolCells (isF W M (sunP lPy lPx lLo lPo (tq ss) l))) ∧ Below w.heap.size w wr) (fun v _ => n - (intOf v).toNat)
  case atStart => exact ⟨0, Nat.zero_le _, rfl, by rw [sunP_zero]; exact own1, hb1⟩
  case round =>
    clear own1
    obtain ⟨l, hl, rfl, hown, hB⟩ := hrel
    have sB := hB.size
    by_cases hlt : l < n
    · go_wp2
      go_loop [11] (fun v => ∃ i : Nat, i ≤ W ∧ v = .int .i64 i ∧ Hid (∀ j, j < i → tq ss (lPy l j) (lPx l j) = false)) (fun v => W - (intOf v).toNat)
      case atStart => exact ⟨0, Nat.zero_le _, rfl, fun j hj => absurd hj (Nat.not_lt_zero _)⟩
      case round =>
        obtain ⟨i, hi, rfl, h0⟩ := hrel
        by_cases hli : i < W
        · obtain ⟨ey, ex, _, _⟩ := hL.back l i hlt hli
          have hpos := Lib.hid (lin_lt ey ex)
          have hat : Hid (sunP lPy lPx lLo lPo (tq ss) l (lPy l i) (lPx l i) = tq ss (lPy l i) (lPx l i)) := sunP_at hL hlt hli
          have hdm := Lib.hid (divmod_at (W := W) (y := lPy l i) ex)
          obtain ⟨q, hq⟩ : ∃ q : Nat, Hid (q = (l) * W) := ⟨_, rfl⟩
          have hqM : q + i < M := by rw [hq.out, hM.out]; exact hpos.out
          have hqi : (l : Int) * (W : Int) = (q : Int) := by have e : ((l : Nat) : Int) = (l : Int) := (by omega); rw [hq.out, Int.natCast_mul, e]
          have hlen : q + i < (boolCells (isF W M (sunP lPy lPx lLo lPo (tq ss) l))).length := by rw [length_boolCells, length_isF]; exact hqM
          have a0 := hown.cellAt (q + i) (by omega)
          have e0 : (boolCells (isF W M (sunP lPy lPx lLo lPo (tq ss) l)))[q + i]? = some (.bool (tq ss (lPy l i) (lPx l i))) := by
            have e1 : (isF W M (sunP lPy lPx lLo lPo (tq ss) l))[q + i]? = some (sunP lPy lPx lLo lPo (tq ss) l ((q + i) / W) ((q + i) % W)) := by
              rw [List.getElem?_eq_getElem (by rw [length_isF]; exact hqM), isF_at]
            have d1 : (q + i) / W = lPy l i := by rw [hq.out]; exact hdm.out.1
            have d2 : (q + i) % W = lPx l i := by rw [hq.out]; exact hdm.out.2
            rw [d1, d2, hat.out] at e1
            simp only [boolCells, List.getElem?_map, e1, Option.map_some]
          rw [e0] at a0
          clear e0 hlen
          have HF := Lib.hid (fun (h1 : tq ss (lPy l i) (lPx l i) = true) => sunP_found hL hlt hli h0.out h1)
          have HN : Hid (tq ss (lPy l i) (lPx l i) = false → ∀ j, j < i + 1 → tq ss (lPy l j) (lPx l j) = false) := by
            intro h j hj
            rcases Nat.lt_or_ge j i with h2 | h2
            · exact h0.out j h2
            · have : j = i := by omega
              rw [this]; exact h
          have f0 := hown.frozenAt (q + i)
          have st := hown.stored (q + i) (.bool false)
          have hset : (boolCells (isF W M (sunP lPy lPx lLo lPo (tq ss) l))).set (q + i) (.bool false) = boolCells (isF W M (bite (sunP lPy lPx lLo lPo (tq ss) l) (lPy l i) (lPx l i))) := by
            rw [set_boolCells, hq.out]; exact congrArg boolCells (isF_set (y := lPy l i) ex)
          rw [hset] at st
          have ST := Lib.hid st.1
          clear st hset
          cases hv : tq ss (lPy l i) (lPx l i)
          · rw [hv] at a0
            have HN2 := Lib.hid (HN.out hv)
            clear HF ST hv
            go_wp2
            go_round
            case rel => exact ⟨i + 1, by omega, by go_num, HN2⟩
            case measure => simp [intOf]; omega
          · rw [hv] at a0
            have HF2 : Hid (isF W M (bite (sunP lPy lPx lLo lPo (tq ss) l) (lPy l i) (lPx l i)) = isF W M (sunP lPy lPx lLo lPo (tq ss) (l + 1))) := by
              simp only [Hid]; rw [hM.out]; exact isF_congr hW1 (HF.out hv)
            clear HN hv
            go_wp2
            go_roundw
            case rel => exact ⟨l + 1, by omega, by go_num, by rw [← HF2.out]; exact ST.out, bset hg1 _ hB⟩
            case measure => simp [intOf]; omega
        · have h0L : ∀ j, j < W → tq ss (lPy l j) (lPx l j) = false := fun j hj => h0.out j (by omega)
          have HF2 : Hid (isF W M (sunP lPy lPx lLo lPo (tq ss) l) = isF W M (sunP lPy lPx lLo lPo (tq ss) (l + 1))) := by
            simp only [Hid]; rw [hM.out]; exact isF_congr hW1 (sunP_none hL h0L)
          clear h0L
          go_wp2
          go_roundw
          case rel => exact ⟨l + 1, by omega, by go_num, by rw [← HF2.out]; exact hown, hB⟩
          case measure => simp [intOf]; omega
    · have hle : l = n := by omega
      rw [hle] at hown
      have HE : Hid (isF W M (sunP lPy lPx lLo lPo (tq ss) n) = isF W M (sunG W n 0 (tq ss))) := by
        simp only [Hid]; rw [hM.out]; exact isF_congr hW1 (sunP_end hL)
      rw [HE.out] at hown
      go_wp2_with fail
      refine (mlOf_any _ M c1 W n (sunG W n 0 (tq ss)) _ hM.out (Rd.of_own hown) hcap hW1 hW10 hn1 hn10).mono ?_; rintro e w2 ⟨A2, c2, rfl, own2, hb2⟩
      go_wp2
      go_ret
      exact ⟨A2, c2, rfl, own_base own2 sB, hB.trans (hb2.mono sB)⟩

set_option maxRecDepth 100000 in
set_option maxHeartbeats 4000000 in
theorem mlSun_r (A : Option Addr) (n c W : Nat) (ss : List ByteArray) (w : World) (hr : Rd w 1 A n (strCells ss)) (hb : TB ss W n) :
    Calls Tryd.prog 39 #[.slice A n c, .string ⟨#[114]⟩] w fun e w' => ∃ A' c', e = .returned (.slice A' n c') ∧ w'.ownsRow w.heap.size 9 1 (.slice A' n c') n (strCells (tabF W n (sunG W n 2 (tq ss)))) ∧ Below w.heap.size w w' := by
  have hn1 := hb.h1
  have hn10 := hb.h10
  have hW1 := hb.w1
  have hW10 := hb.w10
  have hL : Lines W n n W lPy (rPx W) lLo (rPo W) := lines_r W n
  obtain ⟨b, o, rfl, hbl, s00, p00, hs00⟩ := hr.tab0 hb
  have hs00' : s00.size = W := hs00.out
  have HI := Lib.hid (mlIs_any _ n c W ss w hr hb)
  obtain ⟨M, hM⟩ : ∃ M, Hid (M = n * W) := ⟨_, rfl⟩
  have hM100 : M ≤ 100 := by rw [hM.out]; exact Nat.mul_le_mul hn10 hW10
  have hM1 : 0 < M := by rw [hM.out]; exact Nat.mul_pos hn1 hW1
  rw [← hM.out] at HI
  have k1 : ((⟨#[114]⟩ : ByteArray).toList == (⟨#[108]⟩ : ByteArray).toList) = false := by first | exact str_eq _ | exact str_ne rfl
  have k2 : ((⟨#[114]⟩ : ByteArray).toList == (⟨#[114]⟩ : ByteArray).toList) = true := by first | exact str_eq _ | exact str_ne rfl
  have k3 : ((⟨#[114]⟩ : ByteArray).toList == (⟨#[100]⟩ : ByteArray).toList) = false := by first | exact str_eq _ | exact str_ne rfl
  go_enter Tryd.func39, Tryd.ntmps39
  go_wp2_with fail
  refine HI.out.mono ?_; rintro e w1 ⟨A1, c1, rfl, own1, hb1⟩
  have s1 := hb1.size
  have hcap := own_capT own1
  obtain ⟨g, rfl, hg1, hg2⟩ := own_at own1 hM1
  have p1 : w1.cell? ⟨b, o, none⟩ = some (.string s00) := (hb1.cell (p := ⟨b, o, none⟩) hbl).trans p00
  go_wp2
  go_loopw [10] (fun v wr => ∃ l : Nat, l ≤ n ∧ v = .int .i64 l ∧ wr.ownsRow w.heap.size 4 1 (.slice (some ⟨g, 0, none⟩) M c1) M (boolCells (isF W M (sunP lPy (rPx W) lLo (rPo W) (tq ss) l))) ∧ Below w.heap.size w wr) (fun v _ => n - (intOf v).toNat)
  case atStart => exact ⟨0, Nat.zero_le _, rfl, by rw [sunP_zero]; exact own1, hb1⟩
  case round =>
    clear own1
    obtain ⟨l, hl, rfl, hown, hB⟩ := hrel
    have sB := hB.size
    by_cases hlt : l < n
    · go_wp2
      go_loop [11] (fun v => ∃ i : Nat, i ≤ W ∧ v = .int .i64 i ∧ Hid (∀ j, j < i → tq ss (lPy l j) (rPx W l j) = false)) (fun v => W - (intOf v).toNat)
      case atStart => exact ⟨0, Nat.zero_le _, rfl, fun j hj => absurd hj (Nat.not_lt_zero _)⟩
      case round =>
        obtain ⟨i, hi, rfl, h0⟩ := hrel
        by_cases hli : i < W
        · obtain ⟨ey, ex, _, _⟩ := hL.back l i hlt hli
          have hpos := Lib.hid (lin_lt ey ex)
          have hat : Hid (sunP lPy (rPx W) lLo (rPo W) (tq ss) l (lPy l i) (rPx W l i) = tq ss (lPy l i) (rPx W l i)) := sunP_at hL hlt hli
          have hdm := Lib.hid (divmod_at (W := W) (y := lPy l i) ex)
          obtain ⟨q, hq⟩ : ∃ q : Nat, Hid (q = (l) * W) := ⟨_, rfl⟩
          have hqM : q + (W - 1 - i) < M := by rw [hq.out, hM.out]; exact hpos.out
          have hqi : (l : Int) * (W : Int) = (q : Int) := by have e : ((l : Nat) : Int) = (l : Int) := (by omega); rw [hq.out, Int.natCast_mul, e]
          have hxi : (q : Int) + ((W : Int) - 1 - (i : Int)) = ((q + (W - 1 - i) : Nat) : Int) := by omega
          have hlen : q + (W - 1 - i) < (boolCells (isF W M (sunP lPy (rPx W) lLo (rPo W) (tq ss) l))).length := by rw [length_boolCells, length_isF]; exact hqM
          have a0 := hown.cellAt (q + (W - 1 - i)) (by omega)
          have e0 : (boolCells (isF W M (sunP lPy (rPx W) lLo (rPo W) (tq ss) l)))[q + (W - 1 - i)]? = some (.bool (tq ss (lPy l i) (rPx W l i))) := by
            have e1 : (isF W M (sunP lPy (rPx W) lLo (rPo W) (tq ss) l))[q + (W - 1 - i)]? = some (sunP lPy (rPx W) lLo (rPo W) (tq ss) l ((q + (W - 1 - i)) / W) ((q + (W - 1 - i)) % W)) := by
              rw [List.getElem?_eq_getElem (by rw [length_isF]; exact hqM), isF_at]
            have d1 : (q + (W - 1 - i)) / W = lPy l i := by rw [hq.out]; exact hdm.out.1
            have d2 : (q + (W - 1 - i)) % W = rPx W l i := by rw [hq.out]; exact hdm.out.2
            rw [d1, d2, hat.out] at e1
            simp only [boolCells, List.getElem?_map, e1, Option.map_some]
          rw [e0] at a0
          clear e0 hlen
          have HF := Lib.hid (fun (h1 : tq ss (lPy l i) (rPx W l i) = true) => sunP_found hL hlt hli h0.out h1)
          have HN : Hid (tq ss (lPy l i) (rPx W l i) = false → ∀ j, j < i + 1 → tq ss (lPy l j) (rPx W l j) = false) := by
            intro h j hj
            rcases Nat.lt_or_ge j i with h2 | h2
            · exact h0.out j h2
            · have : j = i := by omega
              rw [this]; exact h
          have f0 := hown.frozenAt (q + (W - 1 - i))
          have st := hown.stored (q + (W - 1 - i)) (.bool false)
          have hset : (boolCells (isF W M (sunP lPy (rPx W) lLo (rPo W) (tq ss) l))).set (q + (W - 1 - i)) (.bool false) = boolCells (isF W M (bite (sunP lPy (rPx W) lLo (rPo W) (tq ss) l) (lPy l i) (rPx W l i))) := by
            rw [set_boolCells, hq.out]; exact congrArg boolCells (isF_set (y := lPy l i) ex)
          rw [hset] at st
          have ST := Lib.hid st.1
          clear st hset
          cases hv : tq ss (lPy l i) (rPx W l i)
          · rw [hv] at a0
            have HN2 := Lib.hid (HN.out hv)
            clear HF ST hv
            go_wp2
            go_round
            case rel => exact ⟨i + 1, by omega, by go_num, HN2⟩
            case measure => simp [intOf]; omega
          · rw [hv] at a0
            have HF2 : Hid (isF W M (bite (sunP lPy (rPx W) lLo (rPo W) (tq ss) l) (lPy l i) (rPx W l i)) = isF W M (sunP lPy (rPx W) lLo (rPo W) (tq ss) (l + 1))) := by
              simp only [Hid]; rw [hM.out]; exact isF_congr hW1 (HF.out hv)
            clear HN hv
            go_wp2
            go_roundw
            case rel => exact ⟨l + 1, by omega, by go_num, by rw [← HF2.out]; exact ST.out, bset hg1 _ hB⟩
            case measure => simp [intOf]; omega
        · have h0L : ∀ j, j < W → tq ss (lPy l j) (rPx W l j) = false := fun j hj => h0.out j (by omega)
          have HF2 : Hid (isF W M (sunP lPy (rPx W) lLo (rPo W) (tq ss) l) = isF W M (sunP lPy (rPx W) lLo (rPo W) (tq ss) (l + 1))) := by
            simp only [Hid]; rw [hM.out]; exact isF_congr hW1 (sunP_none hL h0L)
          clear h0L
          go_wp2
          go_roundw
          case rel => exact ⟨l + 1, by omega, by go_num, by rw [← HF2.out]; exact hown, hB⟩
          case measure => simp [intOf]; omega
    · have hle : l = n := by omega
      rw [hle] at hown
      have HE : Hid (isF W M (sunP lPy (rPx W) lLo (rPo W) (tq ss) n) = isF W M (sunG W n 2 (tq ss))) := by
        simp only [Hid]; rw [hM.out]; exact isF_congr hW1 (sunP_end hL)
      rw [HE.out] at hown
      go_wp2_with fail
      refine (mlOf_any _ M c1 W n (sunG W n 2 (tq ss)) _ hM.out (Rd.of_own hown) hcap hW1 hW10 hn1 hn10).mono ?_; rintro e w2 ⟨A2, c2, rfl, own2, hb2⟩
      go_wp2
      go_ret
      exact ⟨A2, c2, rfl, own_base own2 sB, hB.trans (hb2.mono sB)⟩

end Go.Proofs.YtieiakljholkaabDoor
