/-
  Contracts: the laws' marks: the text of a number; a slice of strings marked and looked at again.
-/
import Derived.Test.YtobncknlipeinaaSKit
import Derived.Laws.IdiomStrings
import Derived.Deep.RegionHeld3
namespace Go.Proofs.Ytobncknlipeinaa
open Go.RowKit

/-- the last digit of a number, as a text of one byte -/
def digC (k : Nat) : ByteArray := ByteArray.mk #[UInt8.ofNat (48 + k % 10)]
theorem size_digC (k : Nat) : (digC k).size = 1 := rfl
def digF : Nat → Nat → ByteArray → ByteArray
  | 0, _, out => out
  | f + 1, k, out => if k = 0 then out else digF f (k / 10) (digC k ++ out)
theorem digF_fuel (f : Nat) : ∀ (g k : Nat) (out : ByteArray), k ≤ f → k ≤ g → digF f k out = digF g k out := by
  induction f with
  | zero =>
    intro g k out h1 h2
    have : k = 0 := by omega
    subst this
    cases g <;> simp [digF]
  | succ f ih =>
    intro g k out h1 h2
    cases g with
    | zero =>
      have : k = 0 := by omega
      subst this
      simp [digF]
    | succ g =>
      by_cases hk : k = 0
      · simp [digF, hk]
      · simp only [digF, if_neg hk]
        exact ih g _ _ (by omega) (by omega)
theorem digF_step (k : Nat) (out : ByteArray) (hk : 0 < k) : digF k k out = digF (k / 10) (k / 10) (digC k ++ out) := by
  obtain ⟨m, rfl⟩ : ∃ m, k = m + 1 := ⟨k - 1, by omega⟩
  simp only [digF, Nat.add_eq_zero_iff, Nat.one_ne_zero, and_false, if_false]
  exact digF_fuel m _ _ _ (by omega) (by omega)
/-- the mark of a number of at least 1 -/
def mkText (k : Nat) : ByteArray := ByteArray.mk #[109] ++ digF k k (ByteArray.mk #[])

theorem one_byte (w : World) (k : Nat) :
    (convert 68 9 (.slice (some ⟨w.heap.size, 0, none⟩) 1 1)).run Try.prog (w.alloc (.cells #[.int .u8 (48 + (k : Int) % 10)] 5)) = .ok (.string (digC k)) (w.alloc (.cells #[.int .u8 (48 + (k : Int) % 10)] 5)) := by
  have h := run_convert_bytes_back (P := Try.prog) (w.alloc (.cells #[.int .u8 (48 + (k : Int) % 10)] 5)) 68 9 5 ⟨w.heap.size, 0, none⟩ 1 [UInt8.ofNat (48 + k % 10)] Try.underlying68 Try.underlying5 Try.underlying9 (fun j hj => by
    have : j = 0 := by simp at hj; omega
    subst this
    simp only [Addr.add, go_sem]
    simp [UInt8.toNat_ofNat']
    omega)
  exact h

set_option maxRecDepth 100000 in
set_option maxHeartbeats 1000000 in
theorem markText_any (k0 : Nat) (w : World) (h0 : 1 ≤ k0) (h1 : k0 ≤ 4000000000) :
    Calls Try.prog 38 #[.int .i64 k0] w fun e w' => e = .returned (.string (mkText k0)) ∧ Below w.heap.size w w' := by
  go_enter Try.func38, Try.ntmps38
  go_wp2
  go_loopw [0, 3] (fun kk s wr => ∃ (k : Nat) (out : ByteArray), kk = .int .i64 k ∧ s = .string out ∧ k ≤ k0 ∧ out.size + k ≤ k0 ∧ Hid (digF k k out = digF k0 k0 (ByteArray.mk #[])) ∧ Below w.heap.size w wr) (fun kk _ _ => (intOf kk).toNat)
  case atStart => exact ⟨k0, ByteArray.mk #[], rfl, rfl, Nat.le_refl _, by show 0 + k0 ≤ k0; omega, rfl, Below.refl _ _⟩
  case round =>
    obtain ⟨k, out, rfl, rfl, hk, ho, hT, hB⟩ := hrel
    have sB := hB.size
    by_cases hk0 : 0 < k
    · have hback := one_byte wr k
      have hsz := size_digC k
      have HS := Lib.hid (digF_step k out hk0)
      go_wp2
      go_roundw
      case rel => exact ⟨k / 10, _, by go_num, rfl, by omega, by rw [ByteArray.size_append, hsz]; omega, by have a := hT.out; have b := HS.out; simp only [Hid]; rw [← b]; exact a, by (repeat (first | (with_reducible exact Below.refl _ _) | (with_reducible assumption) | (with_reducible refine Below.drew ?_) | ((with_reducible refine balloc ?_ _ ?_); · (first | (simp; done) | (simp; omega) | omega)) | ((with_reducible refine bset ?_ _ ?_); · (first | (simp; done) | (simp; omega) | omega)) | (with_reducible refine bdrewN _ ?_) | ((with_reducible refine bcall ?_ (by assumption) ?_); · (first | (simp; done) | (simp; omega) | omega))))⟩
      case measure => simp [intOf]; omega
    · have : k = 0 := by omega
      subst this
      have hsz : (ByteArray.mk #[109]).size = 1 := rfl
      go_wp2
      go_ret
      have h := hT.out
      refine ⟨?_, hB⟩
      simp only [mkText, ← h]
      rfl

theorem markText_int (k : Int) (w : World) (h0 : 1 ≤ k) (h1 : k ≤ 4000000000) :
    Calls Try.prog 38 #[.int .i64 k] w fun e w' => e = .returned (.string (mkText k.toNat)) ∧ Below w.heap.size w w' := by
  obtain ⟨m, rfl⟩ := Int.eq_ofNat_of_zero_le (show 0 ≤ k by omega)
  exact markText_any m w (by omega) (by omega)
def markT (k0 : Int) (n : Nat) : List ByteArray := (List.range n).map fun (i : Nat) => mkText (k0 + (i : Int)).toNat

set_option maxRecDepth 100000 in
set_option maxHeartbeats 1000000 in
theorem markStringS_any (A : Option Addr) (n c B : Nat) (k0 : Int) (xs : List ByteArray) (w : World) (ho : w.ownsRow B 9 1 (.slice A n c) n (strCells xs)) (hn : n ≤ 1000000000) (h0 : 1 ≤ k0) (h1 : k0 ≤ 1000000000) :
    Calls Try.prog 20 #[.slice A n c, .int .i64 k0] w fun e w' => e = .returned (.int .i64 (k0 + n)) ∧ w'.ownsRow B 9 1 (.slice A n c) n (strCells (markT k0 n)) ∧ Below B w w' ∧ w.grownBy w' (Value.slice A n c).ownBlock := by
  have hxl : xs.length = n := by have := ho.1; rw [length_strCells] at this; omega
  have HXL := Lib.hid hxl
  clear hxl
  go_enter Try.func20, Try.ntmps20
  go_wp2
  go_loopw [1, 5] (fun q i wr => ∃ (k : Nat) (l : List ByteArray), k ≤ n ∧ i = .int .i64 k ∧ q = .int .i64 (k0 + k) ∧ Hid (l.length = n) ∧ wr.ownsRow B 9 1 (.slice A n c) n (strCells l) ∧ Hid (l.take k = markT k0 k) ∧ Below B w wr ∧ w.grownBy wr (Value.slice A n c).ownBlock) (fun _ i _ => n - (intOf i).toNat)
  case atStart => exact ⟨0, xs, Nat.zero_le _, rfl, by simp, HXL, ho, by simp [Hid, markT], Below.refl _ _, World.grownBy.refl _ _⟩
  case round =>
    obtain ⟨k, l, hk, rfl, rfl, hl, hown, hT, hB, hG⟩ := hrel
    by_cases hlt : k < n
    · obtain ⟨g, rfl, hg1, hg2⟩ := own_at hown (by omega)
      go_wp2_with fail
      refine (markText_int _ _ (by omega) (by omega)).mono ?_; rintro e w3 ⟨rfl, hb3⟩
      have s3 := hb3.size
      have own3 := own_later hown hb3 (Nat.le_refl _)
      have hG3 := gb_trans hG (gb_below hb3 _)
      have hB3 : Below B w w3 := bcall (by omega) hb3 hB
      clear hG hB hown
      have lcs : (strCells l).length = n * 1 := own3.1
      have a0 := own3.cellAt k (by omega)
      rw [List.getElem?_eq_getElem (by omega)] at a0
      have f0 := own3.frozenAt k
      have st := own3.stored k (.string (mkText (k0 + (k : Int)).toNat))
      rw [set_strCells] at st
      have ST := Lib.hid st.1
      have SG := Lib.hid (gb_trans hG3 st.2)
      generalize (strCells l)[k] = v0 at a0
      generalize hmt : mkText (k0 + (k : Int)).toNat = mt at *
      have HM := Lib.hid hmt
      clear st own3 lcs hG3 hmt
      go_wp2
      go_roundw
      case rel =>
        refine ⟨k + 1, l.set k mt, by omega, by go_num, by go_num, by simpa [Hid] using hl.out, ST.out, ?_, by (repeat (first | (with_reducible exact Below.refl _ _) | (with_reducible assumption) | (with_reducible refine Below.drew ?_) | ((with_reducible refine balloc ?_ _ ?_); · (first | (simp; done) | (simp; omega) | omega)) | ((with_reducible refine bset ?_ _ ?_); · (first | (simp; done) | (simp; omega) | omega)) | (with_reducible refine bdrewN _ ?_) | ((with_reducible refine bcall ?_ (by assumption) ?_); · (first | (simp; done) | (simp; omega) | omega)))), SG.out⟩
        have h := hT.out
        have hx : k < l.length := by rw [hl.out]; exact hlt
        simp only [Hid]
        rw [List.take_succ_eq_append_getElem (by simpa using hx), List.take_set_of_le (Nat.le_refl k), h]
        simp [markT, List.range_succ, HM.out]
      case measure => simp [intOf]; omega
    · go_wp2
      go_ret
      have : k = n := by omega
      subst this
      have h := hT.out
      rw [List.take_of_length_le (by rw [hl.out]; exact Nat.le_refl _)] at h
      subst h
      exact ⟨ret_int (by omega), hown, hB, hG⟩

set_option maxRecDepth 100000 in
set_option maxHeartbeats 1000000 in
theorem heldStringS_any (A : Option Addr) (n c : Nat) (k0 : Int) (w : World) (ho : Rd w 1 A n (strCells (markT k0 n))) (hn : n ≤ 1000000000) (h0 : 1 ≤ k0) (h1 : k0 ≤ 1000000000) :
    Calls Try.prog 21 #[.slice A n c, .int .i64 k0] w fun e w' => e = .returned (.int .i64 (k0 + n)) ∧ Below w.heap.size w w' := by
  go_enter Try.func21, Try.ntmps21
  go_wp2
  go_loopw [1, 5] (fun q i wr => ∃ k : Nat, k ≤ n ∧ i = .int .i64 k ∧ q = .int .i64 (k0 + k) ∧ Below w.heap.size w wr) (fun _ i _ => n - (intOf i).toNat)
  case atStart => exact ⟨0, Nat.zero_le _, rfl, by simp, Below.refl _ _⟩
  case round =>
    obtain ⟨k, hk, rfl, rfl, hB⟩ := hrel
    have sB := hB.size
    by_cases hlt : k < n
    · obtain ⟨b1, o1, rfl, l1, hx, p1⟩ := (ho.later hB (Nat.le_refl _)).str hlt
      simp only [markT, List.getElem_map, List.getElem_range] at p1
      generalize hmt : mkText (k0 + (k : Int)).toNat = mt at *
      have hD : (mt.toList == mt.toList) = true := by simp
      have hmk : ∀ wx : World, Calls Try.prog 38 #[.int .i64 (k0 + k)] wx fun e w' => e = .returned (.string mt) ∧ Below wx.heap.size wx w' := by rw [← hmt]; exact fun wx => markText_int _ _ (by omega) (by omega)
      have HM := Lib.hid hmk
      clear hmt hmk
      go_wp2
      go_region_held3 (fun w' => w'.cell? ⟨b1, o1 + k, none⟩ = some (.string mt))
        (((try dsimp only); (repeat' apply And.intro); all_goals ((repeat (first | (with_reducible refine cell_drew ?_) | (with_reducible refine cell_drewN _ ?_) | ((with_reducible refine cell_alloc ?_ ?_); · first | omega | (simp; done) | (simp; omega) | assumption) | ((with_reducible refine cell_set ?_ ?_); · first | (intro e; injection e; omega) | (intro e; simp at e; done) | (intro e; simp at e; omega)))); first | assumption | (simp; done))))
        (first | (go_at_call 38; refine (HM.out _).mono ?_; rintro e w1 ⟨rfl, hb1⟩; obtain ⟨hc1, hf1⟩ := bcell hb1; have s1 := hb1.size; (try simp at s1); have z1 : b1 < w1.heap.size := (by omega); have z2 : wr.heap.size ≤ w1.heap.size := (by omega); have k0 : w1.cell? ⟨b1, o1 + k, none⟩ = some (.string mt) := (hc1 _ _ (by first | (simp; done) | (simp; omega))).trans (by first | assumption | (go_split_ands; assumption))))
      all_goals
        go_wp2
        go_roundw
        case rel => exact ⟨k + 1, by omega, by go_num, by go_num, by (repeat (first | (with_reducible exact Below.refl _ _) | (with_reducible assumption) | (with_reducible refine Below.drew ?_) | ((with_reducible refine balloc ?_ _ ?_); · (first | (simp; done) | (simp; omega) | omega)) | ((with_reducible refine bset ?_ _ ?_); · (first | (simp; done) | (simp; omega) | omega)) | (with_reducible refine bdrewN _ ?_) | ((with_reducible refine bcall ?_ (by assumption) ?_); · (first | (simp; done) | (simp; omega) | omega))))⟩
        case measure => simp [intOf]; omega
    · go_wp2
      go_ret
      have : k = n := by omega
      subst this
      exact ⟨ret_int (by omega), hB⟩

end Go.Proofs.Ytobncknlipeinaa
