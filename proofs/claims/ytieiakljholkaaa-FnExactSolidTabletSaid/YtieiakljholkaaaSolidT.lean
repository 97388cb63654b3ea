/-
  Contracts: SolidTablet of the program and of the model.
-/
import Derived.Test.YtieiakljholkaaaOfT
import Derived.Test.YtieiakljholkaaaRepT
import Derived.Test.YtieiakljholkaaaLibP
namespace Go.Proofs.Ytieiakljholkaaa
open Go.RowKit
set_option linter.unusedVariables false
set_option linter.unusedSimpArgs false

theorem bool_infoT : (Try.prog.info? 4).map (fun i => (i.zero, i.size, i.bytes)) = some (some (.bool false), 1, 1) := by kernel_rfl
theorem inB_trueT {n a b : Int} (h : inB n a b = true) : a ≤ n ∧ n ≤ b := by simpa [inB] using h
def solB (wide high : Int) : Bool := inB wide 1 10 && inB high 1 10
def solR (wide high : Int) : List ByteArray := if solB wide high then tabF wide.toNat high.toNat (fun _ _ => true) else []
theorem solR_no {a b : Int} (h : solB a b = false) : solR a b = [] := by simp [solR, h]
theorem solR_yes {a b : Nat} (h : solB a b = true) : solR a b = tabF a b (fun _ _ => true) := by simp [solR, h]
theorem length_solR (a b : Int) : (solR a b).length ≤ 10 := by
  unfold solR
  split
  · rename_i h
    simp only [solB, Bool.and_eq_true] at h
    rw [length_tabF]
    have := inB_trueT h.2
    omega
  · simp
theorem solB_nat {a b : Int} (h : solB a b = true) : ∃ W n : Nat, a = W ∧ b = n ∧ 1 ≤ W ∧ W ≤ 10 ∧ 1 ≤ n ∧ n ≤ 10 := by
  simp only [solB, Bool.and_eq_true] at h
  have h1 := inB_trueT h.1
  have h2 := inB_trueT h.2
  exact ⟨a.toNat, b.toNat, by omega, by omega, by omega, by omega, by omega, by omega⟩
theorem rep_sol (W n : Nat) (s : ByteArray) (hs : s = rowF W (fun _ => true)) : List.replicate n s = tabF W n (fun _ _ => true) := by
  subst hs
  unfold tabF
  rw [eq_comm, List.eq_replicate_iff]
  simp
theorem repeat_sol (W : Nat) : (⟨(Lib.repeatL (⟨#[35]⟩ : ByteArray).data.toList W).toArray⟩ : ByteArray) = rowF W (fun _ => true) := by
  have e : Lib.repeatL (⟨#[35]⟩ : ByteArray).data.toList W = (List.range W).map fun x => sgn true := by
    have e2 : (⟨#[35]⟩ : ByteArray).data.toList = [35] := rfl
    rw [e2]
    have e3 := Lib.repeatL_replicate 35 1 W
    rw [Nat.mul_one] at e3
    have e4 : List.replicate 1 (35 : UInt8) = [35] := rfl
    rw [e4] at e3
    rw [e3, eq_comm, List.eq_replicate_iff]
    simp [sgn]
  unfold rowF
  rw [e]

set_option maxHeartbeats 400000 in
theorem upToS_any (n m : Int) (w : World) :
    Calls Try.prog 11 #[.int .i64 n, .int .i64 m] w fun e w' => e = .returned (.bool (inB n 1 m)) ∧ w = w' := by
  by_cases h1 : 1 ≤ n <;> by_cases h2 : n ≤ m
  all_goals
    go_enter Try.func11, Try.ntmps11
    go_wp2
    go_ret
    exact ⟨by simp [inB, h1, h2], rfl⟩

set_option maxRecDepth 100000 in
set_option maxHeartbeats 2000000 in
theorem solidTablet_any (a b : Int) (w : World) :
    Calls Try.prog 5 #[.int .i64 a, .int .i64 b] w fun e w' => ∃ A' n' c', e = .returned (.tuple #[.slice A' n' c', .bool (solB a b)]) ∧ w'.ownsRow w.heap.size 9 1 (.slice A' n' c') n' (strCells (solR a b)) ∧ Below w.heap.size w w' := by
  cases hB : solB a b
  · rw [solR_no hB]
    simp only [solB] at hB
    cases h1 : inB a 1 10
    · go_enter Try.func5, Try.ntmps5
      go_wp2_with (go_at_call 11; refine (upToS_any _ _ _).mono ?_; rintro e wx ⟨rfl, rfl⟩; rw [h1])
      go_wp2
      go_ret2
      exact ⟨none, 0, 0, rfl, World.ownsRow_nil _ _ _ _, Below.refl _ _⟩
    · have h2 : inB b 1 10 = false := by rw [h1] at hB; simpa using hB
      go_enter Try.func5, Try.ntmps5
      go_wp2_with (go_at_call 11; refine (upToS_any _ _ _).mono ?_; rintro e wx ⟨rfl, rfl⟩; first | rw [h1] | rw [h2])
      go_wp2_with (go_at_call 11; refine (upToS_any _ _ _).mono ?_; rintro e wx ⟨rfl, rfl⟩; first | rw [h1] | rw [h2])
      go_wp2
      go_ret2
      exact ⟨none, 0, 0, rfl, World.ownsRow_nil _ _ _ _, Below.refl _ _⟩
  · obtain ⟨W, n, rfl, rfl, hW1, hW10, hn1, hn10⟩ := solB_nat hB
    rw [solR_yes hB]
    have h1 : inB (W : Int) 1 10 = true := by simp [inB]; omega
    have h2 : inB (n : Int) 1 10 = true := by simp [inB]; omega
    clear hB
    have HR : Hid (∀ wx : World, Calls Try.prog 13 #[.string ⟨#[35]⟩, .int .i64 W] wx fun e w' => e = .returned (.string (rowF W (fun _ => true))) ∧ Below wx.heap.size wx w') := by
      intro wx
      have e := Try.strings_Repeat ⟨#[35]⟩ W wx (by omega) (by show 1 * W ≤ _; omega)
      rw [repeat_sol] at e
      exact e
    have HE := Lib.hid (rep_sol W n (rowF W (fun _ => true)) rfl)
    generalize rowF W (fun _ => true) = s at *
    go_enter Try.func5, Try.ntmps5
    go_wp2_with (go_at_call 11; refine (upToS_any _ _ _).mono ?_; rintro e wx ⟨rfl, rfl⟩; first | rw [h1] | rw [h2])
    go_wp2_with (go_at_call 11; refine (upToS_any _ _ _).mono ?_; rintro e wx ⟨rfl, rfl⟩; first | rw [h1] | rw [h2])
    go_wp2_with fail
    refine (HR.out _).mono ?_; rintro e w1 ⟨rfl, hb1⟩
    have s1 := hb1.size
    go_wp2_with fail
    refine (slRepeat_any w1.heap.size n s _ (by simp [go_sem]) (by simp) hn1 hn10).mono ?_; rintro e w2 ⟨A2, c2, rfl, own2, hb2⟩
    have hB : Below w.heap.size w w2 := (hb1.alloc s1 (.cells #[.string s] 9)).trans (hb2.mono (by simp; omega))
    rw [HE.out] at own2
    go_wp2
    go_ret2
    exact ⟨A2, n, c2, rfl, own_base own2 (by simp; omega), hB⟩

set_option maxRecDepth 100000 in
set_option maxHeartbeats 2000000 in
theorem sSolidTablet_any (a b : Int) (w : World) :
    Calls Try.prog 4 #[.int .i64 a, .int .i64 b] w fun e w' => ∃ A' n' c', e = .returned (.tuple #[.slice A' n' c', .bool (solB a b)]) ∧ w'.ownsRow w.heap.size 9 1 (.slice A' n' c') n' (strCells (solR a b)) ∧ Below w.heap.size w w' := by
  cases hB : solB a b
  · rw [solR_no hB]
    simp only [solB] at hB
    cases h1 : inB a 1 10
    · go_enter Try.func4, Try.ntmps4
      go_wp2_with (go_at_call 9; refine (l1In_any _ _ _ _).mono ?_; rintro e wx ⟨rfl, rfl⟩; rw [h1])
      go_wp2
      go_ret2
      exact ⟨none, 0, 0, rfl, World.ownsRow_nil _ _ _ _, Below.refl _ _⟩
    · have h2 : inB b 1 10 = false := by rw [h1] at hB; simpa using hB
      go_enter Try.func4, Try.ntmps4
      go_wp2_with (go_at_call 9; refine (l1In_any _ _ _ _).mono ?_; rintro e wx ⟨rfl, rfl⟩; first | rw [h1] | rw [h2])
      go_wp2_with (go_at_call 9; refine (l1In_any _ _ _ _).mono ?_; rintro e wx ⟨rfl, rfl⟩; first | rw [h1] | rw [h2])
      go_wp2
      go_ret2
      exact ⟨none, 0, 0, rfl, World.ownsRow_nil _ _ _ _, Below.refl _ _⟩
  · obtain ⟨W, n, rfl, rfl, hW1, hW10, hn1, hn10⟩ := solB_nat hB
    rw [solR_yes hB]
    have h1 : inB (W : Int) 1 10 = true := by simp [inB]; omega
    have h2 : inB (n : Int) 1 10 = true := by simp [inB]; omega
    clear hB
    obtain ⟨i0, hi, hz0, hz1, hz2⟩ := info_parts bool_infoT
    obtain ⟨M, hM⟩ : ∃ M, Hid (M = n * W) := ⟨_, rfl⟩
    have hM100 : M ≤ 100 := by rw [hM.out]; exact Nat.mul_le_mul hn10 hW10
    have hMi : (W : Int) * (n : Int) = (M : Int) := by rw [hM.out, Nat.mul_comm]; exact (Int.natCast_mul W n).symm
    have HZ : Hid (isF W M (fun _ _ => true) = List.replicate M true) := by
      simp only [Hid, isF]
      rw [List.eq_replicate_iff]
      simp
    go_enter Try.func4, Try.ntmps4
    go_wp2_with (first | (go_at_call 9; refine (l1In_any _ _ _ _).mono ?_; rintro e wx ⟨rfl, rfl⟩; first | rw [h1] | rw [h2]) | (at_make; refine wpList_make_full _ rfl (.tmp 18) (.tmp 18) 29 rfl w.heap.size 4 i0 (.bool false) 1 Try.underlying29 hi hz0 hz1 .i64 .i64 _ _ M rfl rfl rfl rfl ?b2 ?b3 (Nat.le_refl _) ?_))
    case b2 => rw [hz2]; omega
    case b3 => simp only [maxLen]; omega
    intro w1 hown hgrow
    have hb1 : Below w.heap.size w w1 := (Below.refl _ _).grown hgrow (Nat.le_refl _) (fun k hk => by cases hk)
    have sw1 := hb1.size
    clear hgrow
    go_wp2
    go_loopw [22] (fun i wr => ∃ (k : Nat) (cs : List Value), k ≤ M ∧ i = .int .i64 k ∧ wr.ownsRow w.heap.size 4 1 (.slice (some ⟨w.heap.size, 0, none⟩) M M) M cs ∧ Hid (cs.take k = List.replicate k (.bool true)) ∧ Below w.heap.size w wr) (fun i _ => M - (intOf i).toNat)
    case atStart => exact ⟨0, _, Nat.zero_le _, rfl, hown, by simp [Hid], hb1⟩
    case round =>
      clear hown
      obtain ⟨k, cs, hk, rfl, hown, hT, hB⟩ := hrel
      have sB := hB.size
      by_cases hlt : k < M
      · have lcs : cs.length = M * 1 := hown.1
        have hgl := hown.lt w.heap.size (by simp [Value.ownBlock])
        have a0 := hown.cellAt k (by omega)
        rw [List.getElem?_eq_getElem (by omega)] at a0
        have f0 := hown.frozenAt k
        have st := hown.stored k (.bool true)
        have ST := Lib.hid st.1
        have HT : Hid ((cs.set k (.bool true)).take (k + 1) = cs.take k ++ [.bool true]) := by
          simp only [Hid]
          rw [List.take_succ_eq_append_getElem (by simp; omega), List.take_set_of_le (Nat.le_refl k)]
          simp
        generalize cs[k] = v0 at a0
        clear st hown lcs
        go_wp2
        go_roundw
        case rel => exact ⟨k + 1, _, by omega, by go_num, ST.out, by have h := hT.out; have h2 := HT.out; simp only [Hid]; rw [h2, h, List.replicate_succ'], bset (show w.heap.size ≤ w.heap.size from Nat.le_refl _) _ hB⟩
        case measure => simp [intOf]; omega
      · have hkM : k = M := by omega
        have hcs : cs = boolCells (isF W M (fun _ _ => true)) := by
          have h := hT.out
          rw [hkM, List.take_of_length_le (by have := hown.1; omega)] at h
          rw [h, HZ.out]
          simp [boolCells]
        rw [hcs] at hown
        go_wp2_with fail
        refine (mlOf_any _ M M W n (fun _ _ => true) _ hM.out (Rd.of_own hown) (Nat.le_refl _) hW1 hW10 hn1 hn10).mono ?_; rintro e w2 ⟨A2, c2, rfl, own2, hb2⟩
        go_wp2
        go_ret2
        exact ⟨A2, n, c2, rfl, own_base own2 sB, hB.trans (hb2.mono sB)⟩

end Go.Proofs.Ytieiakljholkaaa
