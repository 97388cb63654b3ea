/-
  Contracts: whether a list of texts is a tablet, of the program and of the model.
-/
import Derived.Test.YtieiakljholkaabDoorTabW
import Derived.Test.YtieiakljholkaabDoorLibT
namespace Go.Proofs.YtieiakljholkaabDoor
open Go.RowKit Go.Shelf
set_option linter.unusedVariables false
set_option linter.unusedSimpArgs false

theorem sqB_cs (b : UInt8) : (ByteArray.mk #[35, 46]).data.toList.contains b = sqB b := by
  simp [sqB]; rfl
theorem dropWhile_nil {α : Type} (p : α → Bool) : ∀ l : List α, (l.dropWhile p).isEmpty = l.all p
  | [] => rfl
  | a :: l => by
    simp only [List.dropWhile, List.all_cons]
    cases p a
    · rfl
    · simpa using dropWhile_nil p l
theorem trim_sq (l : List UInt8) : (Lib.trimS l (ByteArray.mk #[35, 46]).data.toList).isEmpty = l.all sqB := by
  have hp : (fun b => (ByteArray.mk #[35, 46]).data.toList.contains b) = sqB := funext sqB_cs
  unfold Lib.trimS Lib.trimLeftS Lib.trimRightS
  rw [hp, dropWhile_nil]
  cases h : l.all sqB
  · rw [List.all_eq_false] at h ⊢
    have h2 : ((l.reverse.dropWhile sqB)).isEmpty = false := by
      rw [dropWhile_nil]
      obtain ⟨x, hx, hx2⟩ := h
      exact List.all_eq_false.2 ⟨x, List.mem_reverse.2 hx, hx2⟩
    cases e : l.reverse.dropWhile sqB with
    | nil => rw [e] at h2; simp at h2
    | cons a r =>
      have ha : sqB a = false := by
        have := List.head?_dropWhile_not sqB l.reverse
        rw [e] at this
        simpa using this
      exact ⟨a, by simp, by rw [ha]; simp⟩
  · have h2 : (l.reverse.dropWhile sqB).isEmpty = true := by
      rw [dropWhile_nil]
      rw [List.all_eq_true] at h ⊢
      intro x hx; exact h x (List.mem_reverse.1 hx)
    rw [List.isEmpty_iff] at h2
    rw [h2]; rfl
theorem inB_trueT {n a b : Int} (h : inB n a b = true) : a ≤ n ∧ n ≤ b := by simpa [inB] using h

set_option maxHeartbeats 400000 in
theorem upToM_any (n m : Int) (w : World) :
    Calls Tryd.prog 67 #[.int .i64 n, .int .i64 m] w fun e w' => e = .returned (.bool (inB n 1 m)) ∧ w = w' := by
  by_cases h1 : 1 ≤ n <;> by_cases h2 : n ≤ m
  all_goals
    go_enter Tryd.func67, Tryd.ntmps67
    go_wp2
    go_ret
    exact ⟨by simp [inB, h1, h2], rfl⟩

set_option maxHeartbeats 1000000 in
theorem tabRow_any (s : ByteArray) (hs : s.size ≤ 9223372036854775807) (w : World) :
    Calls Tryd.prog 79 #[.string s] w fun e w' => e = .returned (.bool (trowB s)) ∧ Below w.heap.size w w' := by
  cases h1 : inB (s.size : Int) 1 10
  · have hB : trowB s = false := trowB_size (by simp [inB] at h1; omega)
    rw [hB]
    go_enter Tryd.func79, Tryd.ntmps79
    go_wp2_with (go_at_call 67; refine (upToM_any _ _ _).mono ?_; rintro e wx ⟨rfl, rfl⟩; rw [h1])
    go_ret
    exact ⟨rfl, Below.refl _ _⟩
  · have hB : trowB s = s.data.toList.all sqB := trowB_eq (by have := inB_trueT h1; omega)
    rw [hB]
    have HT := Lib.hid (fun wx => Tryd.strings_Trim_set s (ByteArray.mk #[35, 46]) wx hs (by decide) (ascii_of_all (by decide)))
    have HI := trim_sq s.data.toList
    obtain ⟨t, ht⟩ : ∃ t, t = (⟨(Lib.trimS s.data.toList (ByteArray.mk #[35, 46]).data.toList).toArray⟩ : ByteArray) := ⟨_, rfl⟩
    rw [← ht] at HT
    have HE : t.toList.isEmpty = s.data.toList.all sqB := by rw [Lib.toList_data, ht]; exact HI
    clear ht HI
    generalize s.data.toList.all sqB = b at *
    cases b
    all_goals
      go_enter Tryd.func79, Tryd.ntmps79
      go_wp2_with (go_at_call 67; refine (upToM_any _ _ _).mono ?_; rintro e wx ⟨rfl, rfl⟩; rw [h1])
      refine (HT.out _).mono ?_; rintro e w1 ⟨rfl, hb1⟩
      go_wp2
      go_ret
      exact ⟨rfl, hb1⟩

set_option maxRecDepth 100000 in
set_option maxHeartbeats 2000000 in
theorem isTablet_any (A : Option Addr) (n c : Nat) (ss : List ByteArray) (w : World) (hr : Rd w 1 A n (strCells ss)) (hsz : ∀ s ∈ ss, s.size ≤ 9223372036854775807) :
    Calls Tryd.prog 49 #[.slice A n c] w fun e w' => e = .returned (.bool (tabB ss)) ∧ Below w.heap.size w w' := by
  have hl := Lib.hid hr.slen
  have HSZ := Lib.hid hsz
  clear hsz
  cases h1 : inB (n : Int) 1 10
  · have hB : tabB ss = false := tabB_size (by rw [hl.out]; simp [inB] at h1; omega)
    rw [hB]
    go_enter Tryd.func49, Tryd.ntmps49
    go_wp2_with (go_at_call 67; refine (upToM_any _ _ _).mono ?_; rintro e wx ⟨rfl, rfl⟩; rw [h1])
    go_ret
    exact ⟨rfl, Below.refl _ _⟩
  · have h1' := inB_trueT h1
    obtain ⟨b0, o0, rfl, l0, hx0, p0⟩ := hr.str (show 0 < n by omega)
    have HW : Hid ((ss[0]).size = tabW ss) := (tabW_at (by have := hl.out; omega)).symm
    have hz60 : (ss[0]).size ≤ 9223372036854775807 := HSZ.out _ (List.getElem_mem hx0)
    go_enter Tryd.func49, Tryd.ntmps49
    go_wp2_with (go_at_call 67; refine (upToM_any _ _ _).mono ?_; rintro e wx ⟨rfl, rfl⟩; rw [h1])
    go_loopw [4, 11] (fun _ i wr => ∃ k : Nat, k ≤ n ∧ i = .int .i64 k ∧ Hid ((ss.take k).all (tokR (tabW ss)) = true) ∧ Below w.heap.size w wr) (fun _ i _ => n - (intOf i).toNat)
    case atStart => exact ⟨0, Nat.zero_le _, rfl, by simp [Hid], Below.refl _ _⟩
    case round =>
      obtain ⟨k, hk, rfl, hT, hB⟩ := hrel
      have sB := hB.size
      by_cases hlt : k < n
      · obtain ⟨b1, o1, e1, l1, hx, p1⟩ := (hr.later hB (Nat.le_refl _)).str hlt
        simp only [Option.some.injEq, Addr.mk.injEq, and_true] at e1
        obtain ⟨rfl, rfl⟩ := e1
        have p0' : wr.cell? ⟨b0, o0, none⟩ = some (.string ss[0]) := (hB.cell (p := ⟨b0, o0, none⟩) l0).trans p0
        have HS := Lib.hid (fun h => all_step hx rfl hT.out h)
        have HF := Lib.hid (fun (h : tokR (tabW ss) ss[k] = false) => tabB_bad hx rfl rfl h)
        have hsk : (ss[k]).size ≤ 9223372036854775807 := HSZ.out _ (List.getElem_mem hx)
        have HA := Lib.hid (fun wx => tabRow_any ss[k] (by omega) wx)
        generalize ss[k] = t at *
        generalize ss[0] = t0 at *
        by_cases hq : t.size = t0.size
        · have hqi : ((t.size : Int) != (t0.size : Int)) = false := by simp; omega
          have HQ : Hid (t.size = tabW ss) := hq.trans HW.out
          clear hq
          cases hp : trowB t
          · rw [hp] at HA
            have HF2 := Lib.hid (HF.out (by simp [tokR, hp]))
            clear hT HS HF
            go_wp2_with fail
            refine (HA.out _).mono ?_; rintro e w2 ⟨rfl, hb2⟩
            go_wp2
            go_ret
            exact ⟨ret_bool HF2.out.symm, hB.trans (hb2.mono sB)⟩
          · rw [hp] at HA
            have HS2 := Lib.hid (HS.out (by simp [tokR, hp, HQ.out]))
            clear hT HS HF
            go_wp2_with fail
            refine (HA.out _).mono ?_; rintro e w2 ⟨rfl, hb2⟩
            go_wp2
            go_roundw
            case rel => exact ⟨k + 1, by omega, by go_num, HS2, hB.trans (hb2.mono sB)⟩
            case measure => simp [intOf]; omega
        · have hqi : ((t.size : Int) != (t0.size : Int)) = true := by simp; omega
          have HF2 := Lib.hid (HF.out (by have := HW.out; simp [tokR]; intro e; omega))
          clear hT HS HF hq
          go_wp2
          go_ret
          exact ⟨ret_bool HF2.out.symm, hB⟩
      · have HE : Hid (tabB ss = true) := by
          have h := hT.out
          have l := hl.out
          rw [List.take_of_length_le (by omega)] at h
          exact tabB_good (by omega) (by omega) rfl h
        have hki : ¬ (k : Int) < (n : Int) := by omega
        clear hT
        go_wp2
        go_ret
        exact ⟨ret_bool HE.out.symm, hB⟩

set_option maxRecDepth 100000 in
set_option maxHeartbeats 2000000 in
theorem mlGood_any (A : Option Addr) (n c : Nat) (ss : List ByteArray) (w : World) (hr : Rd w 1 A n (strCells ss)) (hsz : ∀ s ∈ ss, s.size ≤ 9223372036854775807) :
    Calls Tryd.prog 55 #[.slice A n c] w fun e w' => e = .returned (.bool (tabB ss)) ∧ w = w' := by
  have hl := Lib.hid hr.slen
  have HSZ := Lib.hid hsz
  clear hsz
  cases h1 : inB (n : Int) 1 10
  · have hB : tabB ss = false := tabB_size (by rw [hl.out]; simp [inB] at h1; omega)
    rw [hB]
    go_enter Tryd.func55, Tryd.ntmps55
    go_wp2_with (go_at_call 61; refine (l1In_any _ _ _ _).mono ?_; rintro e wx ⟨rfl, rfl⟩; rw [h1])
    go_ret
    exact ⟨rfl, rfl⟩
  · have h1' := inB_trueT h1
    obtain ⟨b0, o0, rfl, l0, hx0, p0⟩ := hr.str (show 0 < n by omega)
    simp only [Nat.add_zero] at p0
    have HW : Hid ((ss[0]).size = tabW ss) := (tabW_at (by have := hl.out; omega)).symm
    have hz60 : (ss[0]).size ≤ 9223372036854775807 := HSZ.out _ (List.getElem_mem hx0)
    have HB0 := Lib.hid (fun (h : tokR (tabW ss) ss[0] = false) => tabB_bad hx0 rfl rfl h)
    generalize hq0 : ss[0] = t0 at *
    clear hq0
    cases h2 : inB (t0.size : Int) 1 10
    · have HF2 := Lib.hid (HB0.out (by rw [tokR, trowB_size (by simp [inB] at h2; omega), Bool.and_false]))
      go_enter Tryd.func55, Tryd.ntmps55
      go_wp2_with fail
      refine (l1In_any _ _ _ _).mono ?_; rintro e wx ⟨rfl, rfl⟩; rw [h1]
      go_wp2_with fail
      refine (l1In_any _ _ _ _).mono ?_; rintro e wx ⟨rfl, rfl⟩; rw [h2]
      go_wp2
      go_ret
      exact ⟨ret_bool HF2.out.symm, rfl⟩
    · have h2' := inB_trueT h2
      go_enter Tryd.func55, Tryd.ntmps55
      go_wp2_with fail
      refine (l1In_any _ _ _ _).mono ?_; rintro e wx ⟨rfl, rfl⟩; rw [h1]
      go_wp2_with fail
      refine (l1In_any _ _ _ _).mono ?_; rintro e wx ⟨rfl, rfl⟩; rw [h2]
      go_wp2
      go_loop [20] (fun i => ∃ k : Nat, k ≤ n ∧ i = .int .i64 k ∧ Hid ((ss.take k).all (tokR (tabW ss)) = true)) (fun i => n - (intOf i).toNat)
      case atStart => exact ⟨0, Nat.zero_le _, rfl, by simp [Hid]⟩
      case round =>
        obtain ⟨k, hk, rfl, hT⟩ := hrel
        by_cases hlt : k < n
        · obtain ⟨hx, p⟩ := hr.strAt hlt
          have HS := Lib.hid (fun h => all_step hx rfl hT.out h)
          have HF := Lib.hid (fun (h : tokR (tabW ss) ss[k] = false) => tabB_bad hx rfl rfl h)
          generalize ss[k] = t at *
          by_cases hq : t.size = t0.size
          · have hqi : ((t.size : Int) != (t0.size : Int)) = false := by simp; omega
            have HQ : Hid (t.size = tabW ss) := hq.trans HW.out
            have y1 : 1 ≤ t.size := by omega
            have y2 : t.size ≤ 10 := by omega
            have HT2 : Hid (trowB t = t.data.toList.all sqB) := trowB_eq ⟨y1, y2⟩
            clear hq
            go_wp2
            go_loop [5] (fun j => ∃ m : Nat, m ≤ t.size ∧ j = .int .i64 m ∧ Hid ((t.data.toList.take m).all sqB = true)) (fun j => t.size - (intOf j).toNat)
            case atStart => exact ⟨0, Nat.zero_le _, rfl, by simp [Hid]⟩
            case round =>
              obtain ⟨m, hm, rfl, hU⟩ := hrel
              by_cases hlm : m < t.size
              · have HV := Lib.hid (fun h => sqB_step hlm hU.out h)
                have HX := Lib.hid (fun h => sqB_bad hlm h)
                by_cases c1 : t[m] = 35
                · have HV2 := Lib.hid (HV.out (by rw [c1]; rfl))
                  have d1 : (((t[m]).toNat : Int) != 35) = false := by rw [c1]; rfl
                  clear c1
                  go_wp2
                  go_round
                  case rel => exact ⟨m + 1, by omega, by go_num, HV2⟩
                  case measure => simp [intOf]; omega
                · by_cases c2 : t[m] = 46
                  · have HV2 := Lib.hid (HV.out (by rw [c2]; rfl))
                    have d1 : (((t[m]).toNat : Int) != 35) = true := by rw [c2]; rfl
                    have d2 : (((t[m]).toNat : Int) != 46) = false := by rw [c2]; rfl
                    clear c1 c2
                    go_wp2
                    go_round
                    case rel => exact ⟨m + 1, by omega, by go_num, HV2⟩
                    case measure => simp [intOf]; omega
                  · have HB := Lib.hid (HF.out (by rw [tokR, HT2.out, HX.out (by simp [sqB, c1, c2]), Bool.and_false]))
                    have d1 : (((t[m]).toNat : Int) != 35) = true := by
                      simp; intro e; apply c1; apply UInt8.toNat_inj.1; show (t[m]).toNat = 35; omega
                    have d2 : (((t[m]).toNat : Int) != 46) = true := by
                      simp; intro e; apply c2; apply UInt8.toNat_inj.1; show (t[m]).toNat = 46; omega
                    go_wp2
                    go_ret
                    exact ⟨ret_bool HB.out.symm, rfl⟩
              · have hme : m = t.size := by omega
                subst hme
                have HV2 := Lib.hid (HS.out (by
                  have u := hU.out
                  rw [List.take_of_length_le (by show t.data.toList.length ≤ t.data.size; simp)] at u
                  rw [tokR, HT2.out, u, HQ.out]; simp))
                go_wp2
                go_round
                case rel => exact ⟨k + 1, by omega, by go_num, HV2⟩
                case measure => simp [intOf]; omega
          · have hqi : ((t.size : Int) != (t0.size : Int)) = true := by simp; omega
            have HB := Lib.hid (HF.out (by have := HW.out; simp [tokR]; intro e; omega))
            go_wp2
            go_ret
            exact ⟨ret_bool HB.out.symm, rfl⟩
        · have HE : Hid (tabB ss = true) := by
            have h := hT.out
            have l := hl.out
            rw [List.take_of_length_le (by omega)] at h
            exact tabB_good (by omega) (by omega) rfl h
          go_wp2
          go_ret
          exact ⟨ret_bool HE.out.symm, rfl⟩


end Go.Proofs.YtieiakljholkaabDoor
