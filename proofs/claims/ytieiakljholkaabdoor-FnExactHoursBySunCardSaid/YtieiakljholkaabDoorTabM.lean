/-
  Contracts: where squares are, row by row, the tablet of such a list, and how many they are, of the model.
-/
import Derived.Test.YtieiakljholkaabDoorTabG
import Derived.Outline
namespace Go.Proofs.YtieiakljholkaabDoor
open Go.RowKit
set_option linter.unusedVariables false
set_option linter.unusedSimpArgs false

theorem bool_infoM : (Tryd.prog.info? 4).map (fun i => (i.zero, i.size, i.bytes)) = some (some (.bool false), 1, 1) := by kernel_rfl
theorem str_infoM : (Tryd.prog.info? 9).map (fun i => (i.zero, i.size, i.bytes)) = some (some (.string ByteArray.empty), 1, 16) := by kernel_rfl

set_option maxRecDepth 100000 in
set_option maxHeartbeats 4000000 in
theorem mlIs_any (A : Option Addr) (n c W : Nat) (ss : List ByteArray) (w : World) (hr : Rd w 1 A n (strCells ss)) (hb : TB ss W n) :
    Calls Tryd.prog 63 #[.slice A n c] w fun e w' => ∃ A' c', e = .returned (.slice A' (n * W) c') ∧ w'.ownsRow w.heap.size 4 1 (.slice A' (n * W) c') (n * W) (boolCells (isF W (n * W) (tq ss))) ∧ Below w.heap.size w w' := by
  obtain ⟨j0, hj, hy0, hy1, hy2⟩ := info_parts bool_infoM
  have hn1 := hb.h1
  have hn10 := hb.h10
  have hW1 := hb.w1
  have hW10 := hb.w10
  obtain ⟨b, o, rfl, hbl, s00, p00, hs00⟩ := hr.tab0 hb
  go_enter Tryd.func63, Tryd.ntmps63
  go_wp2
  go_loopw [3, 9] (fun v i wr => ∃ (k q : Nat) (A' : Option Addr) (c' : Nat), k ≤ n ∧ q ≤ 100 ∧ Hid (q = k * W) ∧ i = .int .i64 k ∧ v = .slice A' q c' ∧ wr.ownsRow w.heap.size 4 1 (.slice A' q c') q (boolCells (isF W q (tq ss))) ∧ Below w.heap.size w wr) (fun _ i _ => n - (intOf i).toNat)
  case atStart => exact ⟨0, 0, none, 0, Nat.zero_le _, by omega, by simp [Hid], rfl, rfl, World.ownsRow_nil _ _ _ _, Below.refl _ _⟩
  case round =>
    obtain ⟨k, q, A', c', hk, hq100, hq, rfl, rfl, hown, hB⟩ := hrel
    have sB := hB.size
    by_cases hlt : k < n
    · obtain ⟨s, p, hz, _, hby⟩ := (hr.later hB (Nat.le_refl _)).trow hb hlt
      have hz' : s.size = W := hz.out
      have hqW : q + W ≤ 100 := by
        have h1 : (k + 1) * W ≤ 10 * 10 := Nat.mul_le_mul (by omega) hW10
        rw [Nat.succ_mul] at h1
        have := hq.out
        omega
      go_wp2
      go_loopw [3, 6] (fun v i wq => ∃ (m : Nat) (A2 : Option Addr) (c2 : Nat), m ≤ W ∧ i = .int .i64 m ∧ v = .slice A2 (q + m) c2 ∧ wq.ownsRow w.heap.size 4 1 (.slice A2 (q + m) c2) (q + m) (boolCells (isF W (q + m) (tq ss))) ∧ Below w.heap.size w wq) (fun _ i _ => W - (intOf i).toNat)
      case atStart => exact ⟨0, A', c', Nat.zero_le _, rfl, rfl, hown, hB⟩
      case round =>
        obtain ⟨m, A2, c2, hm, rfl, rfl, own2, hB2⟩ := hrel
        have sB2 := hB2.size
        by_cases hlm : m < W
        · have hms : m < s.size := by omega
          have he := hby.out m hms
          have hdm := Lib.hid (divmod_at (W := W) (y := k) hlm)
          have HC : Hid (isF W (q + m + 1) (tq ss) = isF W (q + m) (tq ss) ++ [tq ss k m]) := by
            simp only [Hid]
            rw [isF_succ, hq.out, hdm.out.1, hdm.out.2]
          have hb35 : (((s[m]).toNat : Int) == 35) = tq ss k m := by rw [he, sgn_int]
          clear he
          generalize tq ss k m = v at *
          go_wp2_with (at_builtin; refine wpList_append_own _ rfl (.tmp 19) (.tmp 24) 68 rfl w.heap.size 4 j0 (.bool false) 1 1 Tryd.underlying68 hj hy0 hy1 hy2 rfl (by decide) _ _ _ rfl (own2.alloc _) ⟨wr.heap.size, 0, none⟩ 1 1 [.bool v] rfl rfl ?c1 ?c2 ?c3 ?c4 ?c5 ?_)
          case c1 => exact new1 _ _ _
          case c2 => first | rfl | exact bool_oneCell [v]
          case c3 => simp only [maxLen]; omega
          case c4 => omega
          case c5 => first | omega | (simp; omega)
          · intro v' w2 hown' hgrow _
            have hb2 := gb_new (Nat.le_refl _) (hB2.alloc sB2 (.cells #[.bool v] 4)) hgrow (fun g hg => (own2.lt g hg).1)
            obtain ⟨A3, c3', rfl⟩ := own_slice hown'
            clear hgrow own2 hB2
            go_wp2
            go_roundw
            case rel => exact ⟨m + 1, A3, c3', by omega, by go_num, rfl, by rw [show q + (m + 1) = q + m + 1 from rfl, HC.out, boolCells_append]; exact hown', hb2⟩
            case measure => simp [intOf]; omega
        · have hme : m = W := by omega
          subst hme
          go_wp2
          go_roundw
          case rel => exact ⟨k + 1, q + m, A2, c2, by omega, hqW, by simp only [Hid]; rw [hq.out, Nat.succ_mul], by go_num, rfl, own2, hB2⟩
          case measure => simp [intOf]; omega
    · have hkn : k = n := by omega
      subst hkn
      go_wp2
      go_ret
      have e := hq.out
      subst e
      exact ⟨A', c', rfl, hown, hB⟩

theorem sub_own {w : World} {b o j : Nat} {L : List Bool} {M : Nat} (hr : Rd w 1 (some ⟨b, o, none⟩) M (boolCells L)) (hj : j < L.length) : w.cell? ⟨b, o + j, none⟩ = some (.bool L[j]) := by
  have hM : M = L.length := by have := hr.1; rw [length_boolCells] at this; omega
  obtain ⟨b', o', e, _, hc⟩ := hr.2 (by omega)
  simp only [Option.some.injEq, Addr.mk.injEq, and_true] at e
  obtain ⟨rfl, rfl⟩ := e
  exact hc j _ (by simp [boolCells, hj])

set_option maxRecDepth 100000 in
set_option maxHeartbeats 4000000 in
theorem mlOf_any (A : Option Addr) (M c W n : Nat) (g : Nat → Nat → Bool) (w : World) (hM : M = n * W) (hr : Rd w 1 A M (boolCells (isF W M g))) (hc : M ≤ c) (hW1 : 1 ≤ W) (hW10 : W ≤ 10) (hn1 : 1 ≤ n) (hn10 : n ≤ 10) :
    Calls Tryd.prog 62 #[.int .i64 W, .slice A M c] w fun e w' => ∃ A' c', e = .returned (.slice A' n c') ∧ w'.ownsRow w.heap.size 9 1 (.slice A' n c') n (strCells (tabF W n g)) ∧ Below w.heap.size w w' := by
  obtain ⟨i0, hi, hz0, hz1, hz2⟩ := info_parts str_infoM
  have hM100 : M ≤ 100 := by subst hM; exact Nat.mul_le_mul hn10 hW10
  have hM1 : W ≤ M := by subst hM; exact Nat.le_mul_of_pos_left W hn1
  have HM := Lib.hid hM
  clear hM
  obtain ⟨b, o, rfl, hbl, _⟩ := hr.2 (by omega)
  go_enter Tryd.func62, Tryd.ntmps62
  go_wp2
  go_loopw [5, 6] (fun v i wr => ∃ (k q : Nat) (A' : Option Addr) (c' : Nat), k ≤ n ∧ q ≤ M ∧ Hid (q = k * W) ∧ i = .int .i64 q ∧ v = .slice A' k c' ∧ wr.ownsRow w.heap.size 9 1 (.slice A' k c') k (strCells (tabF W k g)) ∧ Below w.heap.size w wr) (fun _ i _ => M - (intOf i).toNat)
  case atStart => exact ⟨0, 0, none, 0, Nat.zero_le _, by omega, by simp [Hid], rfl, rfl, World.ownsRow_nil _ _ _ _, Below.refl _ _⟩
  case round =>
    obtain ⟨k, q, A', c', hk, hqM, hq, rfl, rfl, hown, hB⟩ := hrel
    have sB := hB.size
    by_cases hlt : q < M
    · have hkn : k < n := by
        rcases Nat.lt_or_ge k n with h | h
        · exact h
        · have h2 : n * W ≤ k * W := Nat.mul_le_mul_right W h
          have := hq.out; have := HM.out; omega
      have hqW : q + W ≤ M := by
        have h2 : (k + 1) * W ≤ n * W := Nat.mul_le_mul_right W hkn
        rw [Nat.succ_mul] at h2
        have := hq.out; have := HM.out; omega
      have hrd := hr.later hB (Nat.le_refl _)
      go_wp2
      go_loop [7, 24] (fun t j => ∃ m : Nat, m ≤ W ∧ j = .int .i64 m ∧ t = .string (rowF m (g k))) (fun _ j => W - (intOf j).toNat)
      case atStart => exact ⟨0, Nat.zero_le _, rfl, rfl⟩
      case round =>
        obtain ⟨m, hm, rfl, rfl⟩ := hrel
        have hs := size_rowF m (g k)
        by_cases hlm : m < W
        · have hj : q + m < (isF W M g).length := by rw [length_isF]; omega
          have p := sub_own hrd hj
          have e : (isF W M g)[q + m] = g k m := by
            have d := divmod_at (W := W) (y := k) hlm
            rw [isF_at, hq.out, d.1, d.2]
          rw [e] at p
          have p' : wr.cell? ⟨b, o + q + m, none⟩ = some (.bool (g k m)) := by rw [Nat.add_assoc]; exact p
          have HC := Lib.hid (rowF_succ m (g k))
          clear p e
          generalize g k m = v at *
          generalize rowF m (g k) = rw0 at *
          cases v
          all_goals
            go_wp2
            go_round
            case rel => exact ⟨m + 1, by omega, by go_num, by rw [HC.out]; rfl⟩
            case measure => simp [intOf]; omega
        · have hme : m = W := by omega
          subst hme
          have HT := Lib.hid (tabF_succ m k g)
          generalize hcv : rowF m (g k) = cv at *
          clear hcv
          go_wp2_with (at_builtin; refine wpList_append_own _ rfl (.tmp 34) (.tmp 36) 22 rfl w.heap.size 9 i0 (.string ByteArray.empty) 1 16 Tryd.underlying22 hi hz0 hz1 hz2 rfl (by decide) _ _ _ rfl (hown.alloc _) ⟨wr.heap.size, 0, none⟩ 1 1 [.string cv] rfl rfl ?d1 ?d2 ?d3 ?d4 ?d5 ?_)
          case d2 => first | rfl | exact str_oneCell [cv]
          case d3 => simp only [maxLen]; omega
          case d4 => omega
          case d5 => first | omega | (simp; omega)
          · intro v' w2 hown' hgrow _
            have hb2 := gb_new (Nat.le_refl _) (hB.alloc sB (.cells #[.string cv] 9)) hgrow (fun g hg => (hown.lt g hg).1)
            obtain ⟨A3, c3', rfl⟩ := own_slice hown'
            clear hgrow hown
            go_wp2
            go_roundw
            case rel => exact ⟨k + 1, q + m, A3, c3', by omega, by omega, by simp only [Hid]; rw [hq.out, Nat.succ_mul], by go_num, rfl, by rw [HT.out, strCells_append]; exact hown', hb2⟩
            case measure => simp [intOf]; omega
    · have hkn : k = n := by
        have h1 := hq.out
        have h2 := HM.out
        have h3 : k * W = n * W := by omega
        exact Nat.eq_of_mul_eq_mul_right (by omega) h3
      subst hkn
      go_wp2
      go_ret
      exact ⟨A', c', rfl, hown, hB⟩

/-- how many squares -/
def cntF (W m : Nat) (g : Nat → Nat → Bool) : Nat := (isF W m g).countP id
theorem cntF_succ (W m : Nat) (g : Nat → Nat → Bool) : cntF W (m + 1) g = cntF W m g + (if g (m / W) (m % W) then 1 else 0) := by
  simp [cntF, isF_succ, List.countP_append, List.countP_cons]
theorem cntF_le (W m : Nat) (g : Nat → Nat → Bool) : cntF W m g ≤ m := by
  have := List.countP_le_length (p := id) (l := isF W m g)
  rwa [length_isF] at this

set_option maxRecDepth 100000 in
set_option maxHeartbeats 4000000 in
theorem mlLeft_any (A : Option Addr) (n c W : Nat) (ss : List ByteArray) (w : World) (hr : Rd w 1 A n (strCells ss)) (hb : TB ss W n) :
    Calls Tryd.prog 45 #[.slice A n c] w fun e w' => e = .returned (.int .i64 (cntF W (n * W) (tq ss) : Nat)) ∧ Below w.heap.size w w' := by
  have hM : n * W ≤ 100 := Nat.mul_le_mul hb.h10 hb.w10
  have HI := Lib.hid (mlIs_any A n c W ss w hr hb)
  generalize n * W = M at *
  go_enter Tryd.func45, Tryd.ntmps45
  go_wp2_with fail
  refine HI.out.mono ?_; rintro e w1 ⟨A', c', rfl, hown, hb1⟩
  have hrd := Rd.of_own hown
  clear hown
  go_wp2
  go_loop [3, 9] (fun t i => ∃ k : Nat, k ≤ M ∧ i = .int .i64 k ∧ t = .int .i64 (cntF W k (tq ss) : Nat)) (fun _ i => M - (intOf i).toNat)
  case atStart => exact ⟨0, Nat.zero_le _, rfl, rfl⟩
  case round =>
    obtain ⟨k, hk, rfl, rfl⟩ := hrel
    have hle := cntF_le W k (tq ss)
    by_cases hlt : k < M
    · obtain ⟨b, o, rfl, hbl, _⟩ := hrd.2 (by omega)
      have hj : k < (isF W M (tq ss)).length := by rw [length_isF]; exact hlt
      have p := sub_own hrd hj
      rw [isF_at] at p
      have HC := Lib.hid (cntF_succ W k (tq ss))
      generalize tq ss (k / W) (k % W) = v at *
      generalize cntF W k (tq ss) = t at *
      cases v
      all_goals
        go_wp2
        go_round
        case rel => exact ⟨k + 1, by omega, by go_num, by rw [HC.out]; go_num⟩
        case measure => simp [intOf]; omega
    · have hkn : k = M := by omega
      subst hkn
      go_wp2
      go_ret
      exact ⟨rfl, hb1⟩

end Go.Proofs.YtieiakljholkaabDoor
