/-
  Contracts: boxes as rows, and a column of them, of the program. Conditions: none.
-/
import Derived.Test.YtcggiekhlophlabDoorTstD
import Derived.Test.YtcggiekhlophlabDoorLibW
import Derived.Test.YtcggiekhlophlabDoorSKit
namespace Go.Proofs.YtcggiekhlophlabDoor
open Go.RowKit Go.Shelf
set_option linter.unusedVariables false
set_option linter.unusedSimpArgs false

def sizeW (ss : List ByteArray) : Nat := (ss.headD ByteArray.empty).size
def rowOk (W : Nat) (s : ByteArray) : Bool := pbB s && decide (s.size = W)
/-- boxes of one size as rows -/
def rcB (ss : List ByteArray) : Bool := decide (1 ≤ ss.length ∧ ss.length ≤ 20) && ss.all (rowOk (sizeW ss))
theorem headD_at0 {ss : List ByteArray} (h : 0 < ss.length) : sizeW ss = (ss[0]).size := by
  cases ss with
  | nil => simp at h
  | cons a r => rfl
theorem rcB_true {ss : List ByteArray} (h : rcB ss = true) : 1 ≤ ss.length ∧ ss.length ≤ 20 ∧ 1 ≤ sizeW ss ∧ sizeW ss ≤ 60 ∧ (∀ s ∈ ss, pbB s = true ∧ s.size = sizeW ss) := by
  simp only [rcB, Bool.and_eq_true, decide_eq_true_eq, List.all_eq_true] at h
  have ha : ∀ s ∈ ss, pbB s = true ∧ s.size = sizeW ss := fun s hs => by
    have := h.2 s hs
    simp only [rowOk, Bool.and_eq_true, decide_eq_true_eq] at this
    exact this
  have h0 := ha ss[0] (List.getElem_mem (by omega))
  have := pbB_size h0.1
  exact ⟨h.1.1, h.1.2, by omega, by omega, ha⟩
theorem all_takeG {α : Type} {p : α → Bool} {l : List α} {k : Nat} (h : k < l.length) (ha : (l.take k).all p = true) (hb : p l[k] = true) : (l.take (k + 1)).all p = true := by
  rw [List.take_succ_eq_append_getElem h, List.all_append, ha]; simp [hb]

set_option maxRecDepth 100000 in
set_option maxHeartbeats 2000000 in
theorem areRows_any (A : Option Addr) (n c : Nat) (ss : List ByteArray) (w : World) (hr : Rd w 1 A n (strCells ss)) (hsz : ∀ s ∈ ss, s.size ≤ 9223372036854775807) (hn : n ≤ 1048576) :
    Calls Tryd.prog 27 #[.slice A n c] w fun e w' => e = .returned (.bool (rcB ss)) ∧ Below w.heap.size w w' := by
  have hl := Lib.hid hr.slen
  have HSZ := Lib.hid hsz
  clear hsz
  cases h1 : inB (n : Int) 1 20
  · have hB : rcB ss = false := by
      have : decide (1 ≤ ss.length ∧ ss.length ≤ 20) = false := by
        rw [hl.out]; simp [inB] at h1; simp; omega
      rw [rcB, this]; rfl
    rw [hB]
    go_enter Tryd.func27, Tryd.ntmps27
    go_wp2_with (go_at_call 23; refine (upToD_any _ _ _).mono ?_; rintro e wx ⟨rfl, rfl⟩; rw [h1])
    go_ret
    exact ⟨rfl, Below.refl _ _⟩
  · have h1' := inB_true h1
    have HB : Hid (rcB ss = ss.all (rowOk (sizeW ss))) := by
      have : decide (1 ≤ ss.length ∧ ss.length ≤ 20) = true := by rw [hl.out]; simp; omega
      simp only [Hid]
      rw [rcB, this]; rfl
    obtain ⟨b0, o0, rfl, l0, hx0, p0⟩ := hr.str (show 0 < n by omega)
    have HW : Hid ((ss[0]).size = sizeW ss) := (headD_at0 (by have := hl.out; omega)).symm
    have hz60 : (ss[0]).size ≤ 9223372036854775807 := HSZ.out _ (List.getElem_mem hx0)
    go_enter Tryd.func27, Tryd.ntmps27
    go_wp2_with (go_at_call 23; refine (upToD_any _ _ _).mono ?_; rintro e wx ⟨rfl, rfl⟩; rw [h1])
    go_loopw [4, 11] (fun _ i wr => ∃ k : Nat, k ≤ n ∧ i = .int .i64 k ∧ Hid ((ss.take k).all (rowOk (sizeW ss)) = true) ∧ Below w.heap.size w wr) (fun _ i _ => n - (intOf i).toNat)
    case atStart => exact ⟨0, Nat.zero_le _, rfl, by simp [Hid], Below.refl _ _⟩
    case round =>
      obtain ⟨k, hk, rfl, hT, hB⟩ := hrel
      have sB := hB.size
      by_cases hlt : k < n
      · obtain ⟨b1, o1, e1, l1, hx, p1⟩ := (hr.later hB (Nat.le_refl _)).str hlt
        simp only [Option.some.injEq, Addr.mk.injEq, and_true] at e1
        obtain ⟨rfl, rfl⟩ := e1
        have HS := Lib.hid (fun h => all_takeG hx hT.out h)
        have HF := Lib.hid (fun (h : rowOk (sizeW ss) ss[k] = false) => (List.all_eq_false.2 ⟨ss[k], List.getElem_mem hx, by rw [h]; simp⟩ : ss.all (rowOk (sizeW ss)) = false))
        have hsk : (ss[k]).size ≤ 9223372036854775807 := HSZ.out _ (List.getElem_mem hx)
        have HA := Lib.hid (fun wx => arePr_any ss[k] (by omega) wx)
        generalize ss[k] = t at *
        generalize ss[0] = t0 at *
        cases hp : pbB t
        · rw [hp] at HA
          have HF2 := Lib.hid (HF.out (by simp [rowOk, hp]))
          clear hT HS HF
          go_wp2_with fail
          refine (HA.out _).mono ?_; rintro e w2 ⟨rfl, hb2⟩
          go_wp2
          go_ret
          exact ⟨ret_bool (by rw [HB.out, HF2.out]), hB.trans (hb2.mono sB)⟩
        · rw [hp] at HA
          have s2 : True := trivial
          by_cases hq : t.size = t0.size
          · have HS2 := Lib.hid (HS.out (by simp [rowOk, hp, hq, HW.out]))
            have hqi : ((t.size : Int) != (t0.size : Int)) = false := by simp; omega
            clear hT HS HF hq
            go_wp2_with fail
            refine (HA.out _).mono ?_; rintro e w2 ⟨rfl, hb2⟩
            have p0' : w2.cell? ⟨b0, o0 + 0, none⟩ = some (.string t0) := (hb2.cell (p := ⟨b0, o0 + 0, none⟩) (by show b0 < _; omega)).trans ((hB.cell (p := ⟨b0, o0 + 0, none⟩) l0).trans p0)
            have p0'' : w2.cell? ⟨b0, o0, none⟩ = some (.string t0) := p0'
            go_wp2
            go_roundw
            case rel => exact ⟨k + 1, by omega, by go_num, HS2, hB.trans (hb2.mono sB)⟩
            case measure => simp [intOf]; omega
          · have HF2 := Lib.hid (HF.out (by simp [rowOk, hp]; rw [← HW.out]; exact hq))
            have hqi : ((t.size : Int) != (t0.size : Int)) = true := by simp; omega
            clear hT HS HF hq
            go_wp2_with fail
            refine (HA.out _).mono ?_; rintro e w2 ⟨rfl, hb2⟩
            have p0' : w2.cell? ⟨b0, o0 + 0, none⟩ = some (.string t0) := (hb2.cell (p := ⟨b0, o0 + 0, none⟩) (by show b0 < _; omega)).trans ((hB.cell (p := ⟨b0, o0 + 0, none⟩) l0).trans p0)
            have p0'' : w2.cell? ⟨b0, o0, none⟩ = some (.string t0) := p0'
            go_wp2
            go_ret
            exact ⟨ret_bool (by rw [HB.out, HF2.out]), hB.trans (hb2.mono sB)⟩
      · have HE : Hid (ss.all (rowOk (sizeW ss)) = true) := by
          have h := hT.out
          rw [List.take_of_length_le (by have := hl.out; omega)] at h
          exact h
        have hki : ¬ (k : Int) < (n : Int) := by omega
        clear hT
        go_wp2
        go_ret
        exact ⟨ret_bool (by rw [HB.out, HE.out]), hB⟩

/-- a column of rows -/
def colB (ss : List ByteArray) (x : Nat) : List UInt8 := ss.map fun s => s.data.toList.getD x 0
theorem colB_succ {ss : List ByteArray} {x k : Nat} (h : k < ss.length) (hx : x < (ss[k]).size) : colB (ss.take (k + 1)) x = colB (ss.take k) x ++ [(ss[k])[x]] := by
  rw [List.take_succ_eq_append_getElem h]
  simp only [colB, List.map_append, List.map_cons, List.map_nil]
  congr 2
  have hd : x < (ss[k]).data.toList.length := by rw [Array.length_toList]; exact hx
  rw [List.getD, List.getElem?_eq_getElem hd]; rfl
set_option maxRecDepth 100000 in
set_option maxHeartbeats 2000000 in
theorem columnOf_any (A : Option Addr) (n c x : Nat) (ss : List ByteArray) (w : World) (hr : Rd w 1 A n (strCells ss)) (hx : ∀ s ∈ ss, x < s.size) (hn : n ≤ 1000) (hx2 : x ≤ 1000) (hsz : ∀ s ∈ ss, s.size ≤ 1000) :
    Calls Tryd.prog 29 #[.slice A n c, .int .i64 x] w fun e w' => e = .returned (.string ⟨(colB ss x).toArray⟩) ∧ Below w.heap.size w w' := by
  have hl := Lib.hid hr.slen
  have HX := Lib.hid hx
  have HSZ := Lib.hid hsz
  clear hx hsz
  have h0 : Lib.IsBuilder 56 5 w.heap.size w.heap.size (Lib.byteCells (colB (ss.take 0) x)) (w.alloc (.cells #[.pointer none, .slice none 0 0] 56)) := by
    refine .inl ⟨Nat.le_refl _, .slice none 0 0, by show (w.heap.push _)[w.heap.size]? = _; simp, World.ownsRow_nil _ _ _ _, by simp [Value.ownBlock]⟩
  have H0 := Lib.hid h0
  clear h0
  go_enter Tryd.func29, Tryd.ntmps29
  go_wp2
  go_loopw [7, 10] (fun _ i wr => ∃ k : Nat, k ≤ n ∧ i = .int .i64 k ∧ Hid (Lib.IsBuilder 56 5 w.heap.size w.heap.size (Lib.byteCells (colB (ss.take k) x)) wr) ∧ Below w.heap.size w wr) (fun _ i _ => n - (intOf i).toNat)
  case atStart => exact ⟨0, Nat.zero_le _, rfl, H0, by (repeat (first | (with_reducible exact Below.refl _ _) | (with_reducible assumption) | (with_reducible refine Below.drew ?_) | ((with_reducible refine balloc ?_ _ ?_); · (first | (simp; done) | (simp; omega) | omega)) | ((with_reducible refine bset ?_ _ ?_); · (first | (simp; done) | (simp; omega) | omega)) | (with_reducible refine bdrewN _ ?_) | ((with_reducible refine bcall ?_ (by assumption) ?_); · (first | (simp; done) | (simp; omega) | omega))))⟩
  case round =>
    obtain ⟨k, hk, rfl, hT, hB⟩ := hrel
    have sB := hB.size
    by_cases hlt : k < n
    · obtain ⟨b1, o1, rfl, l1, hx, p1⟩ := (hr.later hB (Nat.le_refl _)).str hlt
      have hxk : x < (ss[k]).size := HX.out _ (List.getElem_mem hx)
      have hsk : (ss[k]).size ≤ 1000 := HSZ.out _ (List.getElem_mem hx)
      have HS := Lib.hid (colB_succ hx hxk)
      have hlen : (Lib.byteCells (colB (ss.take k) x)).length + 1 ≤ 140737488355328 := by
        rw [Lib.byteCells_length]; simp only [colB, List.length_map, List.length_take]; omega
      have HW := Lib.hid (Tryd.Builder_WriteByte w.heap.size w.heap.size (Lib.byteCells (colB (ss.take k) x)) ((((ss[k])[x]).toNat : Nat) : Int) wr hT.out hlen sB)
      generalize ss[k] = t at *
      go_wp2_with fail
      refine HW.out.mono ?_; rintro e w2 ⟨rfl, hI, hb2⟩
      have HI : Hid (Lib.IsBuilder 56 5 w.heap.size w.heap.size (Lib.byteCells (colB (ss.take (k + 1)) x)) w2) := by
        simp only [Hid]
        rw [HS.out]
        refine .inr ?_
        have e : Lib.byteCells (colB (ss.take k) x ++ [t[x]]) = Lib.byteCells (colB (ss.take k) x) ++ [.int .u8 ((t[x]).toNat : Int)] := by simp [Lib.byteCells]
        rw [e]; exact hI
      clear hI hT
      go_wp2
      go_roundw
      case rel => exact ⟨k + 1, by omega, by go_num, HI, hB.trans hb2⟩
      case measure => simp [intOf]; omega
    · have HST := Lib.hid (Tryd.Builder_String_any w.heap.size w.heap.size (colB ss x) wr (by
        have h := hT.out
        rw [List.take_of_length_le (by have := hl.out; omega)] at h
        exact h) sB)
      have hki : ¬ (k : Int) < (n : Int) := by omega
      clear hT
      go_wp2_with fail
      refine HST.out.mono ?_; rintro e w2 ⟨rfl, hb2⟩
      go_wp2
      go_ret
      exact ⟨rfl, hB.trans hb2⟩
end Go.Proofs.YtcggiekhlophlabDoor
