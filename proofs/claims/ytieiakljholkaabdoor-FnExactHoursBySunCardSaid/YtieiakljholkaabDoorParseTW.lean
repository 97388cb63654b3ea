/-
  Words: a text parted at a byte by the library's SplitN and by the model: where the pieces are few they are the same. Nothing of the program is named here.
-/
import Derived.Test.YtieiakljholkaabDoorSplitW
import Derived.Test.YtieiakljholkaabDoorTabW
import Derived.Lib.IndexMore
import Derived.Lib.Split
namespace Go.Proofs.YtieiakljholkaabDoor
open Go.RowKit

theorem indexN_byte {c : UInt8} : ∀ (l r : List UInt8), c ∉ l → Lib.index (l ++ c :: r) [c] = l.length
  | [], r, _ => by simp [Lib.index, List.isPrefixOf]
  | b :: l, r, h => by
    have h1 : c ≠ b := fun e => h (by simp [e])
    have h2 : c ∉ l := fun e => h (by simp [e])
    have ih := indexN_byte l r h2
    have hb : (c == b) = false := by simpa using h1
    simp only [List.cons_append, Lib.index, List.isPrefixOf, hb, Bool.false_and, ih]
    have : ((l.length : Int) == -1) = false := by simp
    rw [this]
    simp
theorem indexN_none {c : UInt8} : ∀ (l : List UInt8), c ∉ l → Lib.index l [c] = -1
  | [], _ => rfl
  | b :: l, h => by
    have h1 : c ≠ b := fun e => h (by simp [e])
    have h2 : c ∉ l := fun e => h (by simp [e])
    have hb : (c == b) = false := by simpa using h1
    simp [Lib.index, List.isPrefixOf, hb, indexN_none l h2]
theorem cut_first {c : UInt8} : ∀ (l : List UInt8), c ∈ l → ∃ a r, l = a ++ c :: r ∧ c ∉ a
  | [], h => by cases h
  | b :: l, h => by
    by_cases e : c = b
    · exact ⟨[], l, by simp [e], by simp⟩
    · obtain ⟨a, r, h1, h2⟩ := cut_first l (by simpa [e] using h)
      exact ⟨b :: a, r, by rw [h1]; rfl, by simp [e, h2]⟩
theorem spl_one {c : UInt8} (l cur : List UInt8) : 1 ≤ (spl c cur l).length := by
  cases l with
  | nil => simp [spl]
  | cons b r =>
    unfold spl
    split
    · simp
    · exact spl_one r _
theorem splitK_cut {c : UInt8} (k : Nat) (a r : List UInt8) (h : c ∉ a) : Lib.splitK [c] 0 (k + 1) (a ++ c :: r) = a :: Lib.splitK [c] 0 k r := by
  rw [Lib.splitK.eq_2, indexN_byte a r h]
  have : ((a.length : Int) == -1) = false := by simp
  rw [this]
  simp
theorem splitK_none {c : UInt8} (k : Nat) (l : List UInt8) (h : c ∉ l) : Lib.splitK [c] 0 k l = [l] := by
  cases k with
  | zero => rfl
  | succ k => unfold Lib.splitK; rw [indexN_none l h]; rfl
theorem splitK_spl {c : UInt8} : ∀ (k : Nat) (l : List UInt8), ((spl c [] l).length ≤ k + 1 → Lib.splitK [c] 0 k l = spl c [] l) ∧ (k + 1 ≤ (spl c [] l).length → (Lib.splitK [c] 0 k l).length = k + 1)
  | 0, l => by
    refine ⟨fun h => ?_, fun _ => rfl⟩
    by_cases hc : c ∈ l
    · obtain ⟨a, r, rfl, ha⟩ := cut_first l hc
      rw [spl_cut _ _ _ ha] at h
      have := spl_one (c := c) r []
      simp only [List.length_cons] at h; omega
    · rw [spl_end _ _ hc]; rfl
  | k + 1, l => by
    by_cases hc : c ∈ l
    · obtain ⟨a, r, rfl, ha⟩ := cut_first l hc
      obtain ⟨h1, h2⟩ := splitK_spl (c := c) k r
      rw [spl_cut _ _ _ ha, splitK_cut _ _ _ ha]
      simp only [List.length_cons]
      exact ⟨fun h => by rw [h1 (Nat.le_of_succ_le_succ h)]; simp, fun h => by rw [h2 (Nat.le_of_succ_le_succ h)]⟩
    · rw [spl_end _ _ hc, splitK_none _ _ hc]
      exact ⟨fun _ => by simp, fun h => by simp at h⟩
theorem spl_sum (b : UInt8) : ∀ (l cur : List UInt8), ((spl b cur l).map List.length).sum + (spl b cur l).length = cur.length + l.length + 1
  | [], cur => by simp [spl]
  | c :: r, cur => by
    unfold spl
    split
    · have := spl_sum b r []; simp at *; omega
    · have := spl_sum b r (cur ++ [c]); simp at *; omega

theorem mkS_data (s : ByteArray) : mkS s.data.toList = s := by
  apply ByteArray.ext
  simp [mkS]
/-- the library's pieces, at most eleven of them -/
def elevL (s : ByteArray) : List ByteArray := Lib.splitB (ByteArray.mk #[47]) 0 (min 11 (s.size + 1) - 1) s
theorem elevL_list (s : ByteArray) : elevL s = (Lib.splitK [47] 0 (min 11 (s.size + 1) - 1) s.data.toList).map mkS := by
  have h := Lib.splitB_data (ByteArray.mk #[47]) 0 (min 11 (s.size + 1) - 1) s
  have e : (ByteArray.mk #[47]).data.toList = [47] := rfl
  rw [e] at h
  rw [← h, List.map_map]
  unfold elevL
  have : (mkS ∘ fun x : ByteArray => x.data.toList) = id := funext fun x => mkS_data x
  rw [this, List.map_id]
theorem elev_same (s : ByteArray) : tabB (elevL s) = tabB (splitL s 47) ∧ (tabB (splitL s 47) = true → elevL s = splitL s 47) := by
  have hl := length_spl 47 s.data.toList []
  have hz : s.data.toList.length = s.size := by rw [Array.length_toList]; rfl
  have hk := splitK_spl (c := 47) (min 11 (s.size + 1) - 1) s.data.toList
  have hN : (splitL s 47).length = (spl 47 [] s.data.toList).length := by simp [splitL]
  by_cases h : (spl 47 [] s.data.toList).length ≤ 10
  · have e : elevL s = splitL s 47 := by rw [elevL_list, hk.1 (by omega)]; rfl
    exact ⟨by rw [e], fun _ => e⟩
  · have e1 : tabB (splitL s 47) = false := tabB_size (by omega)
    have e2 : tabB (elevL s) = false := by
      apply tabB_size
      rw [elevL_list, List.length_map, hk.2 (by omega)]
      omega
    exact ⟨by rw [e1, e2], fun h => by rw [e1] at h; cases h⟩

theorem tab_size (s : ByteArray) (h : tabB (splitL s 47) = true) : s.size ≤ 109 := by
  have hs := spl_sum 47 s.data.toList []
  have hz : s.data.toList.length = s.size := by rw [Array.length_toList]; rfl
  unfold tabB at h
  rw [Bool.and_eq_true, decide_eq_true_eq] at h
  obtain ⟨⟨h1, h2⟩, h3⟩ := h
  have hN : (splitL s 47).length = (spl 47 [] s.data.toList).length := by simp [splitL]
  have h4 : ∀ p ∈ spl 47 [] s.data.toList, p.length ≤ 10 := by
    intro p hp
    have q := List.all_eq_true.1 h3 (mkS p) (List.mem_map_of_mem hp)
    simp only [tokR, trowB, Bool.and_eq_true, decide_eq_true_eq] at q
    have : (mkS p).size = p.length := by simp [mkS, ByteArray.size]
    omega
  have h5 : ∀ (L : List (List UInt8)), (∀ p ∈ L, p.length ≤ 10) → (L.map List.length).sum ≤ 10 * L.length := by
    intro L
    induction L with
    | nil => intro _; simp
    | cons p r ih =>
      intro hh
      have a := hh p (by simp)
      have b := ih (fun q hq => hh q (by simp [hq]))
      simp at *; omega
  have h6 := h5 _ h4
  simp at hs
  omega

theorem splitL_len (s : ByteArray) (hs : s.size ≤ 1048576) : ∀ t ∈ splitL s 47, t.size ≤ 9223372036854775807 := by
  intro t ht
  obtain ⟨p, hp, rfl⟩ := List.mem_map.1 ht
  have h1 := spl_sum 47 s.data.toList []
  have hz : s.data.toList.length = s.size := by rw [Array.length_toList]; rfl
  have h2 : ∀ (L : List (List UInt8)), p ∈ L → p.length ≤ (L.map List.length).sum := by
    intro L
    induction L with
    | nil => intro h; cases h
    | cons q r ih =>
      intro h
      simp only [List.map_cons, List.sum_cons]
      rcases List.mem_cons.1 h with rfl | h
      · omega
      · have := ih h; omega
  have h3 := h2 _ hp
  have : (mkS p).size = p.length := by simp [mkS, ByteArray.size]
  simp at h1
  omega
theorem splitK_len {c : UInt8} : ∀ (k : Nat) (l : List UInt8), ∀ p ∈ Lib.splitK [c] 0 k l, p.length ≤ l.length
  | 0, l => by
    intro p hp
    have e : Lib.splitK [c] 0 0 l = [l] := rfl
    rw [e] at hp
    simp at hp
    subst hp
    exact Nat.le_refl _
  | k + 1, l => by
    intro p hp
    by_cases hc : c ∈ l
    · obtain ⟨a, r, rfl, ha⟩ := cut_first l hc
      rw [splitK_cut _ _ _ ha] at hp
      rcases List.mem_cons.1 hp with rfl | hp
      · simp
      · have := splitK_len k r p hp
        simp
        omega
    · rw [splitK_none _ _ hc] at hp
      simp at hp
      subst hp
      exact Nat.le_refl _
theorem elevL_len (s : ByteArray) (hs : s.size ≤ 1048576) : ∀ t ∈ elevL s, t.size ≤ 9223372036854775807 := by
  intro t ht
  rw [elevL_list] at ht
  obtain ⟨p, hp, rfl⟩ := List.mem_map.1 ht
  have h := splitK_len _ _ p hp
  have hz : s.data.toList.length = s.size := by rw [Array.length_toList]; rfl
  have : (mkS p).size = p.length := by simp [mkS, ByteArray.size]
  omega

def ptB (s : ByteArray) : Bool := tabB (splitL s 47)
def ptR (s : ByteArray) : List ByteArray := if ptB s then splitL s 47 else []
theorem length_ptR (s : ByteArray) : (ptR s).length ≤ 10 := by
  unfold ptR
  split
  · rename_i h
    unfold ptB tabB at h
    rw [Bool.and_eq_true, decide_eq_true_eq] at h
    exact h.1.2
  · simp
theorem ptR_no {s : ByteArray} (h : ptB s = false) : ptR s = [] := by simp [ptR, h]
theorem ptR_yes {s : ByteArray} (h : ptB s = true) : ptR s = splitL s 47 := by simp [ptR, h]

end Go.Proofs.YtieiakljholkaabDoor
