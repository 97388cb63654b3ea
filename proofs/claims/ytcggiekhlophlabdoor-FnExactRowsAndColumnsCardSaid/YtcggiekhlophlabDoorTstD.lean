/-
  Contracts: TestsOfBox of the program and of the model. Conditions: none.
-/
import Derived.Test.YtcggiekhlophlabDoorTst
import Derived.Test.YtcggiekhlophlabDoorMinMax
namespace Go.Proofs.YtcggiekhlophlabDoor
open Go.RowKit Go.Shelf
set_option linter.unusedVariables false
set_option linter.unusedSimpArgs false

def oxB (b : UInt8) : Bool := b == 111 || b == 120
/-- whether a text is a box -/
def pbB (s : ByteArray) : Bool := decide (1 ≤ s.size ∧ s.size ≤ 60) && s.data.toList.all oxB
theorem oxB_cs (b : UInt8) : (ByteArray.mk #[111, 120]).data.toList.contains b = oxB b := by
  simp [oxB]; rfl
theorem dropWhile_nil {α : Type} (p : α → Bool) : ∀ l : List α, (l.dropWhile p).isEmpty = l.all p
  | [] => rfl
  | a :: l => by
    simp only [List.dropWhile, List.all_cons]
    cases p a
    · rfl
    · simpa using dropWhile_nil p l
theorem trim_all (l : List UInt8) : (Lib.trimS l (ByteArray.mk #[111, 120]).data.toList).isEmpty = l.all oxB := by
  have hp : (fun b => (ByteArray.mk #[111, 120]).data.toList.contains b) = oxB := funext oxB_cs
  unfold Lib.trimS Lib.trimLeftS Lib.trimRightS
  rw [hp, dropWhile_nil]
  cases h : l.all oxB
  · rw [List.all_eq_false] at h ⊢
    have h2 : ((l.reverse.dropWhile oxB)).isEmpty = false := by
      rw [dropWhile_nil]
      obtain ⟨x, hx, hx2⟩ := h
      exact List.all_eq_false.2 ⟨x, List.mem_reverse.2 hx, hx2⟩
    cases e : l.reverse.dropWhile oxB with
    | nil => rw [e] at h2; simp at h2
    | cons a r =>
      have ha : oxB a = false := by
        have := List.head?_dropWhile_not oxB l.reverse
        rw [e] at this
        simpa using this
      exact ⟨a, by simp, by rw [ha]; simp⟩
  · have h2 : (l.reverse.dropWhile oxB).isEmpty = true := by
      rw [dropWhile_nil]
      rw [List.all_eq_true] at h ⊢
      intro x hx; exact h x (List.mem_reverse.1 hx)
    rw [List.isEmpty_iff] at h2
    rw [h2]; rfl

set_option maxHeartbeats 400000 in
theorem upToD_any (n m : Int) (w : World) :
    Calls Tryd.prog 23 #[.int .i64 n, .int .i64 m] w fun e w' => e = .returned (.bool (inB n 1 m)) ∧ w = w' := by
  by_cases h1 : 1 ≤ n <;> by_cases h2 : n ≤ m
  all_goals
    go_enter Tryd.func23, Tryd.ntmps23
    go_wp2
    go_ret
    exact ⟨by simp [inB, h1, h2], rfl⟩

set_option maxHeartbeats 1000000 in
theorem arePr_any (s : ByteArray) (hs : s.size ≤ 9223372036854775807) (w : World) :
    Calls Tryd.prog 22 #[.string s] w fun e w' => e = .returned (.bool (pbB s)) ∧ Below w.heap.size w w' := by
  cases h1 : inB (s.size : Int) 1 60
  · have hB : pbB s = false := by
      simp only [pbB, inB] at *
      simp at h1
      have : decide (1 ≤ s.size ∧ s.size ≤ 60) = false := by simp; omega
      rw [this]; rfl
    rw [hB]
    go_enter Tryd.func22, Tryd.ntmps22
    go_wp2_with (go_at_call 23; refine (upToD_any _ _ _).mono ?_; rintro e wx ⟨rfl, rfl⟩; rw [h1])
    go_ret
    exact ⟨rfl, Below.refl _ _⟩
  · have hB : pbB s = s.data.toList.all oxB := by
      have := inB_true h1
      have : decide (1 ≤ s.size ∧ s.size ≤ 60) = true := by simp; omega
      rw [pbB, this]; rfl
    rw [hB]
    have HT := Lib.hid (fun wx => Tryd.strings_Trim_set s (ByteArray.mk #[111, 120]) wx hs (by decide) (ascii_of_all (by decide)))
    have HI := trim_all s.data.toList
    obtain ⟨t, ht⟩ : ∃ t, t = (⟨(Lib.trimS s.data.toList (ByteArray.mk #[111, 120]).data.toList).toArray⟩ : ByteArray) := ⟨_, rfl⟩
    rw [← ht] at HT
    have HE : t.toList.isEmpty = s.data.toList.all oxB := by rw [Lib.toList_data, ht]; exact HI
    clear ht HI
    generalize s.data.toList.all oxB = b at *
    cases b
    all_goals
      go_enter Tryd.func22, Tryd.ntmps22
      go_wp2_with (go_at_call 23; refine (upToD_any _ _ _).mono ?_; rintro e wx ⟨rfl, rfl⟩; rw [h1])
      refine (HT.out _).mono ?_; rintro e w1 ⟨rfl, hb1⟩
      go_wp2
      go_ret
      exact ⟨rfl, hb1⟩

theorem all_takeD {l : List UInt8} {k : Nat} (h : k < l.length) (ha : (l.take k).all oxB = true) (hb : oxB l[k] = true) : (l.take (k + 1)).all oxB = true := by
  rw [List.take_succ_eq_append_getElem h, List.all_append, ha]; simp [hb]
set_option maxRecDepth 100000 in
set_option maxHeartbeats 1000000 in
theorem bxBox_any (s : ByteArray) (hs : s.size ≤ 9223372036854775807) (w : World) :
    Calls Tryd.prog 19 #[.string s] w fun e w' => e = .returned (.bool (pbB s)) ∧ w = w' := by
  have hl : s.data.toList.length = s.size := Array.length_toList
  cases h1 : inB (s.size : Int) 1 60
  · have hB : pbB s = false := by
      simp only [pbB, inB] at *
      simp at h1
      have : decide (1 ≤ s.size ∧ s.size ≤ 60) = false := by simp; omega
      rw [this]; rfl
    rw [hB]
    go_enter Tryd.func19, Tryd.ntmps19
    go_wp2_with (go_at_call 20; refine (l1In_any _ _ _ _).mono ?_; rintro e wx ⟨rfl, rfl⟩; rw [h1])
    go_ret
    exact ⟨rfl, rfl⟩
  · have h60 := (inB_true h1).2
    have HB : Hid (pbB s = s.data.toList.all oxB) := by
      have := inB_true h1
      have : decide (1 ≤ s.size ∧ s.size ≤ 60) = true := by simp; omega
      simp only [Hid]
      rw [pbB, this]; rfl
    go_enter Tryd.func19, Tryd.ntmps19
    go_wp2_with (go_at_call 20; refine (l1In_any _ _ _ _).mono ?_; rintro e wx ⟨rfl, rfl⟩; rw [h1])
    go_loop [3] (fun i => ∃ k : Nat, k ≤ s.size ∧ i = .int .i64 k ∧ Hid ((s.data.toList.take k).all oxB = true)) (fun i => s.size - (intOf i).toNat)
    case atStart => exact ⟨0, Nat.zero_le _, rfl, by simp [Hid]⟩
    case round =>
      obtain ⟨k, hk, rfl, hT⟩ := hrel
      by_cases hlt : k < s.size
      · have hkl : k < s.data.toList.length := by omega
        have e1 : s.data.toList[k] = s[k] := rfl
        by_cases c1 : s[k] = 111
        · have c1i : (((s[k]).toNat : Int) != 111) = false := by rw [c1]; decide
          have HS := Lib.hid (all_takeD hkl hT.out (by rw [e1, c1]; decide))
          go_wp2
          go_round
          case rel => exact ⟨k + 1, by omega, by go_num, HS⟩
          case measure => simp [intOf]; omega
        · have c1i : (((s[k]).toNat : Int) != 111) = true := by
            simp; intro h; exact c1 (UInt8.toNat_inj.1 (by show _ = 111; omega))
          by_cases c2 : s[k] = 120
          · have c2i : (((s[k]).toNat : Int) != 120) = false := by rw [c2]; decide
            have HS := Lib.hid (all_takeD hkl hT.out (by rw [e1, c2]; decide))
            go_wp2
            go_round
            case rel => exact ⟨k + 1, by omega, by go_num, HS⟩
            case measure => simp [intOf]; omega
          · have c2i : (((s[k]).toNat : Int) != 120) = true := by
              simp; intro h; exact c2 (UInt8.toNat_inj.1 (by show _ = 120; omega))
            have HF : Hid (s.data.toList.all oxB = false) := by
              simp only [Hid, List.all_eq_false]
              refine ⟨s.data.toList[k], List.getElem_mem hkl, ?_⟩
              rw [e1]; simp [oxB, c1, c2]
            go_wp2
            go_ret
            exact ⟨ret_bool (by rw [HB.out, HF.out]), rfl⟩
      · have HE : Hid (s.data.toList.all oxB = true) := by
          have h := hT.out
          rw [List.take_of_length_le (by omega)] at h
          exact h
        have hki : ¬ (k : Int) < (s.size : Int) := by omega
        go_wp2
        go_ret
        exact ⟨ret_bool (by rw [HB.out, HE.out]), rfl⟩

theorem hasX_take {l : List UInt8} {j : Nat} (h : j < l.length) : hasX (l.take (j + 1)) = (hasX (l.take j) || l[j] == 120) := by
  rw [List.take_succ_eq_append_getElem h]
  cases a : hasX (l.take j)
  · cases b : (l[j] == 120)
    · cases e : hasX (l.take j ++ [l[j]])
      · rfl
      · have := (hasX_iff _).1 e
        rcases List.mem_append.1 this with h1 | h1
        · rw [(hasX_iff _).2 h1] at a; cases a
        · simp at h1
          rw [← h1] at b; simp at b
    · have hb : l[j] = 120 := by simpa using b
      rw [(hasX_iff _).2 (by rw [hb]; simp)]; rfl
  · rw [(hasX_iff _).2 (List.mem_append_left _ ((hasX_iff _).1 a))]; rfl
theorem getD_drop (l : List UInt8) (F j : Nat) (h : F + j < l.length) : (l.drop F)[j]'(by simp; omega) = l[F + j] := by simp
set_option maxRecDepth 100000 in
set_option maxHeartbeats 4000000 in
theorem bxTests_any (s : ByteArray) (g : Nat) (hs : s.size ≤ 1000) (hg : 1 ≤ g) (hg2 : g ≤ 1000) (w : World) :
    Calls Tryd.prog 21 #[.string s, .int .i64 g] w fun e w' => e = .returned (.int .i64 (tbL' g s.data.toList : Nat)) ∧ w = w' := by
  have hl : s.data.toList.length = s.size := Array.length_toList
  have HLL := Lib.hid hl
  clear hl
  go_enter Tryd.func21, Tryd.ntmps21
  go_wp2
  go_loop [5, 6, 7, 8, 9] (fun a f _ _ _ => ∃ (n F : Nat), a = .int .i64 (n : Int) ∧ f = .int .i64 (F : Int) ∧ F ≤ s.size + g ∧ n ≤ 2 * F ∧ Hid (n + tbL' g (s.data.toList.drop F) = tbL' g s.data.toList)) (fun _ f _ _ _ => s.size - (intOf f).toNat)
  case atStart => exact ⟨0, 0, rfl, rfl, by omega, by omega, by simp [Hid]⟩
  case round =>
    obtain ⟨n, F, rfl, rfl, hF, hn, hT⟩ := hrel
    by_cases hlt : F < s.size
    · obtain ⟨to, hto⟩ : ∃ to : Nat, to = min (F + g) s.size := ⟨_, rfl⟩
      have HLE := Lib.hid (fun wx => l1Least_min ((F : Int) + (g : Int)) (s.size : Int) wx)
      rw [show min ((F : Int) + (g : Int)) (s.size : Int) = (to : Int) by omega] at HLE
      have hFt : F < to := by omega
      have hts : to ≤ s.size := by omega
      have htFg : to ≤ F + g := by omega
      have HTK : Hid ((s.data.toList.drop F).take g = (s.data.toList.drop F).take (to - F)) := by
        simp only [Hid]
        have h := HLL.out
        by_cases c : F + g ≤ s.size
        · rw [show to - F = g by omega]
        · rw [List.take_of_length_le (by simp; omega), List.take_of_length_le (by simp; omega)]
      have HRD : Hid (tbL' g (s.data.toList.drop F) = tgL ((s.data.toList.drop F).take (to - F)) + tbL' g (s.data.toList.drop (F + g))) := by
        simp only [Hid]
        rw [tb_step hg (by simp; have := HLL.out; omega), HTK.out, List.drop_drop]
      clear hto
      go_wp2_with (go_at_call 31; refine (HLE.out _).mono ?_; rintro e wx ⟨rfl, rfl⟩)
      go_loop [8, 9] (fun b i => ∃ (j : Nat), j ≤ to - F ∧ i = .int .i64 ((F : Int) + (j : Int)) ∧ b = .bool (hasX ((s.data.toList.drop F).take j))) (fun _ i => to - (intOf i).toNat)
      case atStart => exact ⟨0, by omega, by go_num, by simp [hasX, Lib.indexByte]⟩
      case round =>
        obtain ⟨j, hj, rfl, rfl⟩ := hrel
        by_cases hlj : j < to - F
        · have hjl : j < (s.data.toList.drop F).length := by simp; have := HLL.out; omega
          have HS := Lib.hid (hasX_take hjl)
          have hFj : F + j < s.size := by omega
          have HE : Hid ((s.data.toList.drop F)[j] = s[F + j]) := getD_drop _ F j (by have := HLL.out; omega)
          rw [HE.out] at HS
          have hji : (F : Int) + (j : Int) < (to : Int) := by omega
          cases hb : hasX ((s.data.toList.drop F).take j)
          · rw [hb] at HS
            cases hc : (s[F + j] == 120)
            · have hci : (((s[F + j]).toNat : Int) == 120) = false := by
                simp; intro h
                have : s[F + j] = 120 := UInt8.toNat_inj.1 (by show _ = 120; omega)
                rw [this] at hc; simp at hc
              rw [hc] at HS
              go_wp2
              go_round
              case rel => exact ⟨j + 1, by omega, by go_num, by rw [HS.out]; rfl⟩
              case measure => simp [intOf]; omega
            · have hc2 : s[F + j] = 120 := by simpa using hc
              have hci : (((s[F + j]).toNat : Int) == 120) = true := by rw [hc2]; decide
              rw [hc] at HS
              go_wp2
              go_round
              case rel => exact ⟨j + 1, by omega, by go_num, by rw [HS.out]; rfl⟩
              case measure => simp [intOf]; omega
          · rw [hb] at HS
            go_wp2
            go_round
            case rel => exact ⟨j + 1, by omega, by go_num, by rw [HS.out]; rfl⟩
            case measure => simp [intOf]; omega
        · have hje : j = to - F := by omega
          subst hje
          have hji : ¬ (F : Int) + ((to - F : Nat) : Int) < (to : Int) := by omega
          have HLG : Hid (((s.data.toList.drop F).take (to - F)).length = to - F) := by
            simp only [Hid]; simp; have := HLL.out; omega
          have HTG : Hid (tgL ((s.data.toList.drop F).take (to - F)) = if 1 < to - F ∧ hasX ((s.data.toList.drop F).take (to - F)) = true then 1 + (to - F) else 1) := by
            simp only [Hid, tgL, HLG.out]
          have HN : Hid (n + tgL ((s.data.toList.drop F).take (to - F)) + tbL' g (s.data.toList.drop (F + g)) = tbL' g s.data.toList) := by
            have h := hT.out
            rw [HRD.out] at h
            simp only [Hid]; omega
          rw [HTG.out] at HN
          clear hT HRD HTG HLG HTK
          generalize hasX ((s.data.toList.drop F).take (to - F)) = b at *
          by_cases c1 : 1 < to - F
          · have c1i : (to : Int) - (F : Int) > 1 := by omega
            cases b
            · rw [if_neg (by simp)] at HN
              go_wp2
              go_round
              case rel => exact ⟨n + 1, F + g, by go_num, by go_num, by omega, by omega, HN.out⟩
              case measure => simp [intOf]; omega
            · rw [if_pos ⟨c1, rfl⟩] at HN
              go_wp2
              go_round
              case rel => exact ⟨n + (1 + (to - F)), F + g, by (first | (congr 1; omega) | go_num), by go_num, by omega, by omega, HN.out⟩
              case measure => simp [intOf]; omega
          · have c1i : ¬ (to : Int) - (F : Int) > 1 := by omega
            rw [if_neg (fun h => c1 h.1)] at HN
            go_wp2
            go_round
            case rel => exact ⟨n + 1, F + g, by go_num, by go_num, by omega, by omega, HN.out⟩
            case measure => simp [intOf]; omega
    · have HE : Hid (tbL' g s.data.toList = n) := by
        have h := hT.out
        rw [List.drop_of_length_le (by have := HLL.out; omega), tb_nil] at h
        simp only [Hid]; omega
      have hki : ¬ (F : Int) < (s.size : Int) := by omega
      clear hT
      go_wp2
      go_ret
      exact ⟨ret_int (by rw [HE.out]), rfl⟩

def toB (s : ByteArray) (g : Int) : Bool := pbB s && inB g 1 60
def toN (s : ByteArray) (g : Int) : Int := if toB s g then (tbL' g.toNat s.data.toList : Nat) else 0
theorem toN_no {s : ByteArray} {g : Int} (h : toB s g = false) : toN s g = 0 := by simp [toN, h]
theorem pbB_size {s : ByteArray} (h : pbB s = true) : 1 ≤ s.size ∧ s.size ≤ 60 := by
  simp only [pbB, Bool.and_eq_true, decide_eq_true_eq] at h
  exact h.1

set_option maxHeartbeats 1000000 in
theorem testsOf_any (s : ByteArray) (g : Int) (w : World) (hs : s.size ≤ 1048576) :
    Calls Tryd.prog 7 #[.string s, .int .i64 g] w fun e w' => e = .returned (.tuple #[.int .i64 (toN s g), .bool (toB s g)]) ∧ Below w.heap.size w w' := by
  have HA := Lib.hid (fun wx => arePr_any s (by omega) wx)
  cases h1 : pbB s
  · have hB : toB s g = false := by simp [toB, h1]
    rw [toN_no hB, hB]
    rw [h1] at HA
    go_enter Tryd.func7, Tryd.ntmps7
    go_wp2_with fail
    refine (HA.out _).mono ?_; rintro e w1 ⟨rfl, hb1⟩
    go_wp2
    go_ret2
    exact ⟨rfl, hb1⟩
  · rw [h1] at HA
    cases h2 : inB g 1 60
    · have hB : toB s g = false := by simp [toB, h2]
      rw [toN_no hB, hB]
      go_enter Tryd.func7, Tryd.ntmps7
      go_wp2_with fail
      refine (HA.out _).mono ?_; rintro e w1 ⟨rfl, hb1⟩
      go_wp2_with (go_at_call 23; refine (upToD_any _ _ _).mono ?_; rintro e wx ⟨rfl, rfl⟩; rw [h2])
      go_ret2
      exact ⟨rfl, hb1⟩
    · obtain ⟨G, rfl, g1, g2⟩ := inB_nat (m := 60) h2
      have hB : toB s (G : Int) = true := by simp [toB, h1, h2]
      rw [show toN s (G : Int) = (tbL' G s.data.toList : Nat) by simp [toN, hB], hB]
      have HT := Lib.hid (fun wx => testsOfBox_any s G (by have := pbB_size h1; omega) g1 (by omega) wx)
      generalize tbL' G s.data.toList = q at *
      go_enter Tryd.func7, Tryd.ntmps7
      go_wp2_with fail
      refine (HA.out _).mono ?_; rintro e w1 ⟨rfl, hb1⟩
      go_wp2_with first | (go_at_call 23; refine (upToD_any _ _ _).mono ?_; rintro e wx ⟨rfl, rfl⟩; rw [h2]) | (go_at_call 24; refine (HT.out _).mono ?_; rintro e wx ⟨rfl, rfl⟩)
      go_ret2
      exact ⟨rfl, hb1⟩
set_option maxHeartbeats 1000000 in
theorem sTestsOf_any (s : ByteArray) (g : Int) (w : World) (hs : s.size ≤ 1048576) :
    Calls Tryd.prog 6 #[.string s, .int .i64 g] w fun e w' => e = .returned (.tuple #[.int .i64 (toN s g), .bool (toB s g)]) ∧ Below w.heap.size w w' := by
  have HA := Lib.hid (fun wx => bxBox_any s (by omega) wx)
  cases h1 : pbB s
  · have hB : toB s g = false := by simp [toB, h1]
    rw [toN_no hB, hB]
    rw [h1] at HA
    go_enter Tryd.func6, Tryd.ntmps6
    go_wp2_with (go_at_call 19; refine (HA.out _).mono ?_; rintro e wx ⟨rfl, rfl⟩)
    go_ret2
    exact ⟨rfl, Below.refl _ _⟩
  · rw [h1] at HA
    cases h2 : inB g 1 60
    · have hB : toB s g = false := by simp [toB, h2]
      rw [toN_no hB, hB]
      go_enter Tryd.func6, Tryd.ntmps6
      go_wp2_with first | (go_at_call 19; refine (HA.out _).mono ?_; rintro e wx ⟨rfl, rfl⟩) | (go_at_call 20; refine (l1In_any _ _ _ _).mono ?_; rintro e wx ⟨rfl, rfl⟩; rw [h2])
      go_ret2
      exact ⟨rfl, Below.refl _ _⟩
    · obtain ⟨G, rfl, g1, g2⟩ := inB_nat (m := 60) h2
      have hB : toB s (G : Int) = true := by simp [toB, h1, h2]
      rw [show toN s (G : Int) = (tbL' G s.data.toList : Nat) by simp [toN, hB], hB]
      have HT := Lib.hid (fun wx => bxTests_any s G (by have := pbB_size h1; omega) g1 (by omega) wx)
      generalize tbL' G s.data.toList = q at *
      go_enter Tryd.func6, Tryd.ntmps6
      go_wp2_with first | (go_at_call 19; refine (HA.out _).mono ?_; rintro e wx ⟨rfl, rfl⟩) | (go_at_call 20; refine (l1In_any _ _ _ _).mono ?_; rintro e wx ⟨rfl, rfl⟩; rw [h2]) | (go_at_call 21; refine (HT.out _).mono ?_; rintro e wx ⟨rfl, rfl⟩)
      go_ret2
      exact ⟨rfl, Below.refl _ _⟩
end Go.Proofs.YtcggiekhlophlabDoor
