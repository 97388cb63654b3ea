/-
  Contracts: whether there are a tablet and a side, of the program and of the model; a tablet turned so many times, of the program. Words: the first square of a row replaced, the squares of a row counted.
-/
import Derived.Test.YtieiakljholkaabDoorSunT
import Derived.Test.YtieiakljholkaabDoorTurnT
import Derived.Test.YtieiakljholkaabDoorParseTW
import Derived.Test.YtieiakljholkaabDoorLibU
import Derived.Lib.Replace
namespace Go.Proofs.YtieiakljholkaabDoor
open Go.RowKit
set_option linter.unusedVariables false
set_option linter.unusedSimpArgs false

theorem exists_first {f : Nat → Bool} {W : Nat} (h : ∃ x, x < W ∧ f x = true) : ∃ i, i < W ∧ f i = true ∧ ∀ k, k < i → f k = false := by
  induction W with
  | zero => obtain ⟨x, hx, _⟩ := h; omega
  | succ W ih =>
    by_cases h2 : ∃ x, x < W ∧ f x = true
    · obtain ⟨i, a, b, c⟩ := ih h2
      exact ⟨i, by omega, b, c⟩
    · obtain ⟨x, hx, hf⟩ := h
      have : x = W := by
        rcases Nat.lt_or_ge x W with q | q
        · exact absurd ⟨x, q, hf⟩ h2
        · omega
      subst this
      refine ⟨x, by omega, hf, fun k hk => ?_⟩
      cases e : f k
      · rfl
      · exact absurd ⟨k, hk, e⟩ h2
theorem replace_none {L : List UInt8} (h : (35 : UInt8) ∉ L) : Lib.replace L [35] [46] 1 = L := by
  have hc : Lib.count L [35] = 0 := by rw [Lib.count_one, List.count_eq_zero]; exact h
  have e : (([35] : List UInt8) == [46]) = false := by decide
  rw [Lib.replace, if_neg (by rw [e]; exact Bool.false_ne_true), Lib.replaceNum, if_pos (.inr (by rw [hc]; decide)), hc]
  rfl
theorem replace_first {a r : List UInt8} (h : (35 : UInt8) ∉ a) : Lib.replace (a ++ 35 :: r) [35] [46] 1 = a ++ 46 :: r := by
  have hc : ¬ ((1 : Int) < 0 ∨ (Lib.count (a ++ 35 :: r) [35] : Int) < 1) := by
    rw [Lib.count_one]
    have : 1 ≤ (a ++ 35 :: r).count (35 : UInt8) := List.count_pos_iff.2 (by simp)
    omega
  have e : (([35] : List UInt8) == [46]) = false := by decide
  rw [Lib.replace, if_neg (by rw [e]; exact Bool.false_ne_true), Lib.replaceNum, if_neg hc]
  show Lib.replaceK [35] [46] 1 _ = _
  rw [Lib.replaceK_hit [35] [46] 0 _ a.length (indexN_byte a r h)]
  simp [Lib.replaceK]
/-- the first square of a row replaced -/
theorem replace_row (W : Nat) (f : Nat → Bool) : (⟨(Lib.replace (rowF W f).data.toList [35] [46] 1).toArray⟩ : ByteArray) = rowF W (fun x => f x && (List.range x).any f) := by
  have hd : (rowF W f).data.toList = (List.range W).map fun x => sgn (f x) := by simp [rowF]
  rw [hd]
  by_cases h : ∃ x, x < W ∧ f x = true
  · obtain ⟨i, hi, h1, h0⟩ := exists_first h
    have hl : i < ((List.range W).map fun x => sgn (f x)).length := by simpa using hi
    have hs : ((List.range W).map fun x => sgn (f x)) = ((List.range W).map fun x => sgn (f x)).take i ++ 35 :: ((List.range W).map fun x => sgn (f x)).drop (i + 1) := by
      have e := List.take_append_drop i ((List.range W).map fun x => sgn (f x))
      rw [List.drop_eq_getElem_cons hl] at e
      have e2 : ((List.range W).map fun x => sgn (f x))[i] = 35 := by simp [h1, sgn]
      rw [e2] at e
      exact e.symm
    have hn : (35 : UInt8) ∉ ((List.range W).map fun x => sgn (f x)).take i := by
      intro hm
      rw [← List.map_take, List.take_range] at hm
      obtain ⟨k, hk, e⟩ := List.mem_map.1 hm
      have : k < i := by have := List.mem_range.1 hk; omega
      rw [h0 k this] at e
      cases e
    have e3 : Lib.replace ((List.range W).map fun x => sgn (f x)) [35] [46] 1 = ((List.range W).map fun x => sgn (f x)).set i 46 := by
      rw [List.set_eq_take_append_cons_drop, if_pos hl, ← replace_first hn, ← hs]
    rw [e3]
    unfold rowF
    congr 2
    apply List.ext_getElem
    · simp
    · intro k h2 h3
      rw [List.getElem_set]
      have e4 : (f k && (List.range k).any f) = (f k && decide (i < k)) := by rw [any_before h0 h1]
      by_cases q : i = k
      · subst q
        rw [if_pos rfl]
        simp only [List.getElem_map, List.getElem_range]
        rw [any_before (j := i) h0 h1]
        simp [sgn]
      · rw [if_neg q]
        simp only [List.getElem_map, List.getElem_range, e4]
        rcases Nat.lt_or_ge k i with q2 | q2
        · rw [h0 k q2]; rfl
        · have : decide (i < k) = true := decide_eq_true (by omega)
          rw [this, Bool.and_true]
  · have h0 : ∀ x, x < W → f x = false := fun x hx => by
      cases e : f x
      · rfl
      · exact absurd ⟨x, hx, e⟩ h
    rw [replace_none]
    · unfold rowF
      congr 2
      apply List.map_congr_left
      intro x hx
      simp [h0 x (List.mem_range.1 hx)]
    · intro hm
      obtain ⟨k, hk, e⟩ := List.mem_map.1 hm
      rw [h0 k (List.mem_range.1 hk)] at e
      cases e
/-- the squares of a row -/
theorem count_row (W : Nat) (f : Nat → Bool) : Lib.countByte (rowF W f).data.toList 35 = (List.range W).countP f := by
  have hd : (rowF W f).data.toList = (List.range W).map fun x => sgn (f x) := by simp [rowF]
  rw [hd, Lib.countByte, List.count, List.countP_map]
  congr 1
  funext x
  exact sgn_eq (f x)

/-- whether a text is a side, and which -/
def sideB (s : ByteArray) : Bool := decide (s = ⟨#[108]⟩ ∨ s = ⟨#[100]⟩ ∨ s = ⟨#[114]⟩ ∨ s = ⟨#[117]⟩)
def sideK (s : ByteArray) : Nat := if s = ⟨#[108]⟩ then 0 else if s = ⟨#[100]⟩ then 1 else if s = ⟨#[114]⟩ then 2 else 3
def sideS (k : Nat) : ByteArray := if k = 0 then ⟨#[108]⟩ else if k = 1 then ⟨#[100]⟩ else if k = 2 then ⟨#[114]⟩ else ⟨#[117]⟩
theorem sideB_true {s : ByteArray} (h : sideB s = true) : ∃ c, s = ⟨#[c]⟩ ∧ (c = 108 ∨ c = 100 ∨ c = 114 ∨ c = 117) := by
  rcases of_decide_eq_true h with e | e | e | e <;> exact ⟨_, e, by simp⟩
theorem one_inj {a b : UInt8} : ((⟨#[a]⟩ : ByteArray) = ⟨#[b]⟩) ↔ a = b := by
  constructor
  · intro h
    have := congrArg (fun s : ByteArray => s.data.toList) h
    simpa using this
  · rintro rfl; rfl
theorem size_one {s : ByteArray} (h : s.size = 1) : ∃ c, s = ⟨#[c]⟩ := by
  refine ⟨s[0], byteArray_ext h ?_⟩
  intro x h1 h2
  have : x = 0 := by omega
  subst this
  rfl
theorem side_index (c : UInt8) : decide (0 ≤ Lib.indexByte [108, 100, 114, 117] c) = sideB ⟨#[c]⟩ := by
  unfold sideB
  simp only [one_inj]
  by_cases h1 : c = 108
  · subst h1; rfl
  · by_cases h2 : c = 100
    · subst h2; rfl
    · by_cases h3 : c = 114
      · subst h3; rfl
      · by_cases h4 : c = 117
        · subst h4; rfl
        · have g1 : ((108 : UInt8) == c) = false := by simpa using fun e : (108 : UInt8) = c => h1 e.symm
          have g2 : ((100 : UInt8) == c) = false := by simpa using fun e : (100 : UInt8) = c => h2 e.symm
          have g3 : ((114 : UInt8) == c) = false := by simpa using fun e : (114 : UInt8) = c => h3 e.symm
          have g4 : ((117 : UInt8) == c) = false := by simpa using fun e : (117 : UInt8) = c => h4 e.symm
          simp [Lib.indexByte, g1, g2, g3, g4, h1, h2, h3, h4]

def sdOk (ss : List ByteArray) (s : ByteArray) : Bool := tabB ss && sideB s
theorem sdOk_no {ss : List ByteArray} {s : ByteArray} (h : tabB ss = false) : sdOk ss s = false := by simp [sdOk, h]

set_option maxRecDepth 100000 in
set_option maxHeartbeats 1000000 in
theorem canShine_any (A : Option Addr) (n c : Nat) (ss : List ByteArray) (s : ByteArray) (w : World) (hr : Rd w 1 A n (strCells ss)) (hsz : ∀ s ∈ ss, s.size ≤ 9223372036854775807) :
    Calls Tryd.prog 40 #[.slice A n c, .string s] w fun e w' => e = .returned (.bool (sdOk ss s)) ∧ Below w.heap.size w w' := by
  have HG := Lib.hid (isTablet_any A n c ss w hr hsz)
  clear hsz
  cases hB : tabB ss
  · rw [hB] at HG
    rw [sdOk_no hB]
    go_enter Tryd.func40, Tryd.ntmps40
    go_wp2_with (go_at_call 49; refine HG.out.mono ?_; rintro e w1 ⟨rfl, hb1⟩)
    go_wp2
    go_ret
    exact ⟨rfl, hb1⟩
  · rw [hB] at HG
    have hok : sdOk ss s = sideB s := by simp [sdOk, hB]
    rw [hok]
    by_cases h1 : s.size = 1
    · obtain ⟨b, rfl⟩ := size_one h1
      have HC := Lib.hid (fun wx => Tryd.strings_Contains_one ⟨#[108, 100, 114, 117]⟩ b wx)
      have HX : Hid (decide (0 ≤ Lib.indexByte (⟨#[108, 100, 114, 117]⟩ : ByteArray).data.toList b) = sideB ⟨#[b]⟩) := side_index b
      rw [HX.out] at HC
      clear h1
      generalize sideB ⟨#[b]⟩ = v at *
      go_enter Tryd.func40, Tryd.ntmps40
      go_wp2_with (go_at_call 49; refine HG.out.mono ?_; rintro e w1 ⟨rfl, hb1⟩)
      go_wp2_with (go_at_call 71; refine (HC.out _).mono ?_; rintro e w2 ⟨rfl, rfl⟩)
      go_wp2
      go_ret
      exact ⟨rfl, hb1⟩
    · have hs : sideB s = false := by
        cases e : sideB s
        · rfl
        · obtain ⟨c, rfl, _⟩ := sideB_true e
          exact absurd rfl h1
      rw [hs]
      have hi : ((s.size : Int) == 1) = false := by simp; omega
      go_enter Tryd.func40, Tryd.ntmps40
      go_wp2_with (go_at_call 49; refine HG.out.mono ?_; rintro e w1 ⟨rfl, hb1⟩)
      go_wp2
      go_ret
      exact ⟨rfl, hb1⟩

set_option maxRecDepth 100000 in
set_option maxHeartbeats 1000000 in
theorem mlSide_any (A : Option Addr) (n c : Nat) (ss : List ByteArray) (s : ByteArray) (w : World) (hr : Rd w 1 A n (strCells ss)) (hsz : ∀ s ∈ ss, s.size ≤ 9223372036854775807) :
    Calls Tryd.prog 38 #[.slice A n c, .string s] w fun e w' => e = .returned (.bool (sdOk ss s)) ∧ w = w' := by
  have HG := Lib.hid (mlGood_any A n c ss w hr hsz)
  clear hsz
  cases hB : tabB ss
  · rw [hB] at HG
    rw [sdOk_no hB]
    go_enter Tryd.func38, Tryd.ntmps38
    go_wp2_with (go_at_call 55; refine HG.out.mono ?_; rintro e w1 ⟨rfl, rfl⟩)
    go_wp2
    go_ret
    exact ⟨rfl, rfl⟩
  · rw [hB] at HG
    have hok : sdOk ss s = sideB s := by simp [sdOk, hB]
    rw [hok]
    have HL : ∀ b : UInt8, (s.toList == [b]) = decide (s = ⟨#[b]⟩) := fun b => by
      have e0 : (⟨#[b]⟩ : ByteArray).toList = [b] := by rw [Lib.toList_data]
      by_cases e : s = ⟨#[b]⟩
      · rw [decide_eq_true e]; have h := (Lib.bytes_beq_iff _ _).2 e; rw [e0] at h; exact h
      · rw [decide_eq_false e]; have h := (Lib.bytes_beq_false_iff _ _).2 e; rw [e0] at h; exact h
    have k1 := HL 117
    have k2 := HL 100
    have k3 := HL 108
    have k4 := HL 114
    clear HL
    have HV : Hid (sideB s = (decide (s = ⟨#[117]⟩) || decide (s = ⟨#[100]⟩) || decide (s = ⟨#[108]⟩) || decide (s = ⟨#[114]⟩))) := by
      simp only [Hid, sideB]
      by_cases a : s = ⟨#[117]⟩ <;> by_cases b : s = ⟨#[100]⟩ <;> by_cases c : s = ⟨#[108]⟩ <;> by_cases d : s = ⟨#[114]⟩ <;> simp [a, b, c, d]
    rw [HV.out]
    generalize decide (s = ⟨#[117]⟩) = v1 at *
    generalize decide (s = ⟨#[100]⟩) = v2 at *
    generalize decide (s = ⟨#[108]⟩) = v3 at *
    generalize decide (s = ⟨#[114]⟩) = v4 at *
    clear HV
    cases v1 <;> cases v2 <;> cases v3 <;> cases v4
    all_goals
      go_enter Tryd.func38, Tryd.ntmps38
      go_wp2_with (go_at_call 55; refine HG.out.mono ?_; rintro e w1 ⟨rfl, rfl⟩)
      go_wp2
      go_ret
      exact ⟨rfl, rfl⟩

/-- a tablet behind an hour of a sun, of the model -/
theorem mlSun_any (A : Option Addr) (n c W : Nat) (ss : List ByteArray) (s : ByteArray) (w : World) (hr : Rd w 1 A n (strCells ss)) (hb : TB ss W n) (hs : sideB s = true) :
    Calls Tryd.prog 39 #[.slice A n c, .string s] w fun e w' => ∃ A' c', e = .returned (.slice A' n c') ∧ w'.ownsRow w.heap.size 9 1 (.slice A' n c') n (strCells (tabF W n (sunG W n (sideK s) (tq ss)))) ∧ Below w.heap.size w w' := by
  rcases of_decide_eq_true hs with rfl | rfl | rfl | rfl
  · exact mlSun_l A n c W ss w hr hb
  · exact mlSun_d A n c W ss w hr hb
  · exact mlSun_r A n c W ss w hr hb
  · exact mlSun_u A n c W ss w hr hb

theorem turnG_tq {W n : Nat} {g : Nat → Nat → Bool} : tabF n W (turnG n (tq (tabF W n g))) = tabF n W (turnG n g) := by
  apply tabF_congr
  intro y hy x hx
  exact tq_tabF (by omega) hy

set_option maxRecDepth 100000 in
set_option maxHeartbeats 2000000 in
theorem turnTab_any (A : Option Addr) (n c W k : Nat) (g : Nat → Nat → Bool) (w : World) (hr : Rd w 1 A n (strCells (tabF W n g))) (hn1 : 1 ≤ n) (hn10 : n ≤ 10) (hW1 : 1 ≤ W) (hW10 : W ≤ 10) (hk : k ≤ 4) :
    Calls Tryd.prog 42 #[.slice A n c, .int .i64 k] w fun e w' => ∃ A' c', e = .returned (.slice A' (tW n W k) c') ∧ w'.ownsRow w.heap.size 9 1 (.slice A' (tW n W k) c') (tW n W k) (strCells (tabF (tW W n k) (tW n W k) (tG W n g k))) ∧ Below w.heap.size w w' := by
  obtain ⟨b, o, rfl, hbl, _⟩ := hr.2 (by omega)
  have HB : Hid (∀ j, 1 ≤ tW n W j ∧ tW n W j ≤ 10 ∧ 1 ≤ tW W n j ∧ tW W n j ≤ 10) := by
    intro j; unfold tW; split <;> omega
  go_enter Tryd.func42, Tryd.ntmps42
  go_wp2_with fail
  refine (slCloneT_any b o n c _ _ hr (by omega)).mono ?_; rintro e w1 ⟨A1, c1, rfl, own1, hb1⟩
  go_wp2
  go_loopw [5, 9] (fun v i wr => ∃ (j m : Nat) (A' : Option Addr) (c' : Nat), j ≤ k ∧ Hid (m = tW n W j) ∧ i = .int .i64 j ∧ v = .slice A' m c' ∧ wr.ownsRow w.heap.size 9 1 (.slice A' m c') m (strCells (tabF (tW W n j) (tW n W j) (tG W n g j))) ∧ Below w.heap.size w wr) (fun _ i _ => k - (intOf i).toNat)
  case atStart => exact ⟨0, n, A1, c1, Nat.zero_le _, rfl, rfl, rfl, own1, hb1⟩
  case round =>
    clear own1
    obtain ⟨j, m, A', c', hj, hm, rfl, rfl, hown, hB⟩ := hrel
    have sB := hB.size
    by_cases hlt : j < k
    · obtain ⟨q1, q2, q3, q4⟩ := HB.out j
      have hT : TB (tabF (tW W n j) (tW n W j) (tG W n g j)) (tW W n j) m := by rw [hm.out]; exact TB.tabF q1 q2 q3 q4 _
      have HR := Lib.hid (turnRows_any A' m c' (tW W n j) _ wr (Rd.of_own hown) hT)
      have HE : Hid (tabF m (tW W n j) (turnG m (tq (tabF (tW W n j) (tW n W j) (tG W n g j)))) = tabF (tW W n (j + 1)) (tW n W (j + 1)) (tG W n g (j + 1))) := by
        simp only [Hid]
        rw [hm.out, turnG_tq, tW_succ, tW_succ]
        rfl
      have HM : Hid (tW W n j = tW n W (j + 1)) := (tW_succ n W j).symm
      rw [HE.out] at HR
      clear hT hown q1 q2 q3 q4
      go_wp2_with fail
      refine HR.out.mono ?_; rintro e w2 ⟨A2, c2, rfl, own2, hb2⟩
      go_wp2
      go_roundw
      case rel => exact ⟨j + 1, _, A2, c2, by omega, HM, by go_num, rfl, own_base own2 sB, hB.trans (hb2.mono sB)⟩
      case measure => simp [intOf]; omega
    · have hjk : j = k := by omega
      subst hjk
      go_wp2
      go_ret
      have e := hm.out
      subst e
      exact ⟨A', c', rfl, hown, hB⟩

end Go.Proofs.YtieiakljholkaabDoor
