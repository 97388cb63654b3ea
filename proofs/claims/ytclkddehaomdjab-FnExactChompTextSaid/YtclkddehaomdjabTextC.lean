/-
  Contracts: the text of a chomp, of the model and of the program.
-/
import Derived.Test.YtclkddehaomdjabChSum
import Derived.Laws.IdiomStrings
namespace Go.Proofs.Ytclkddehaomdjab
open Go.RowKit
set_option linter.unusedVariables false

/-- a digit -/
def numS (k : Nat) : ByteArray := ByteArray.mk #[UInt8.ofNat (48 + k)]
theorem size_numS (k : Nat) : (numS k).size = 1 := rfl
theorem one_num (w : World) (k : Nat) (hk : k < 10) :
    (convert 57 9 (.slice (some ⟨w.heap.size, 0, none⟩) 1 1)).run Try.prog (w.alloc (.cells #[.int .u8 (48 + (k : Int))] 5)) = .ok (.string (numS k)) (w.alloc (.cells #[.int .u8 (48 + (k : Int))] 5)) := by
  have h := run_convert_bytes_back (P := Try.prog) (w.alloc (.cells #[.int .u8 (48 + (k : Int))] 5)) 57 9 5 ⟨w.heap.size, 0, none⟩ 1 [UInt8.ofNat (48 + k)] Try.underlying57 Try.underlying5 Try.underlying9 (fun j hj => by
    have : j = 0 := by simp at hj; omega
    subst this
    simp only [Addr.add, go_sem]
    simp [UInt8.toNat_ofNat']
    omega)
  exact h
set_option maxHeartbeats 400000 in
theorem l1Num_any (k : Nat) (w : World) (hk : k < 10) :
    Calls Try.prog 57 #[.int .i64 k] w fun e w' => e = .returned (.string (numS k)) ∧ Below w.heap.size w w' := by
  have hback := one_num w k hk
  go_enter Try.func57, Try.ntmps57
  go_wp2
  go_ret
  exact ⟨rfl, by (repeat (first | (with_reducible exact Below.refl _ _) | (with_reducible assumption) | (with_reducible refine Below.drew ?_) | ((with_reducible refine balloc ?_ _ ?_); · (first | (simp; done) | (simp; omega) | omega)) | ((with_reducible refine bset ?_ _ ?_); · (first | (simp; done) | (simp; omega) | omega)) | (with_reducible refine bdrewN _ ?_) | ((with_reducible refine bcall ?_ (by assumption) ?_); · (first | (simp; done) | (simp; omega) | omega))))⟩

def byteCells (l : List UInt8) : List Value := l.map fun b => .int .u8 b.toNat
theorem length_byteCells (l : List UInt8) : (byteCells l).length = l.length := by simp [byteCells]
theorem byteCells_append (l r : List UInt8) : byteCells (l ++ r) = byteCells l ++ byteCells r := by simp [byteCells]
theorem byte_info : (Try.prog.info? 5).map (fun i => (i.zero, i.size, i.bytes)) = some (some (.int .u8 0), 1, 1) := by kernel_rfl
/-- a text out of a row of bytes that the call owns -/
theorem run_string_own {w : World} {B n c : Nat} {A : Option Addr} {l : List UInt8} (ho : w.ownsRow B 5 1 (.slice A n c) n (byteCells l)) (hn : 0 < n) :
    (convert 57 9 (.slice A n c)).run Try.prog w = .ok (.string ⟨l.toArray⟩) w := by
  obtain ⟨g, rfl, _, _⟩ := own_at ho hn
  have hl : l.length = n := by have := ho.1; rw [length_byteCells] at this; omega
  subst hl
  refine run_convert_bytes_back (P := Try.prog) w 57 9 5 ⟨g, 0, none⟩ c l Try.underlying57 Try.underlying5 Try.underlying9 (fun j hj => ?_)
  have q := ho.cellAt j (by omega)
  have e : (⟨g, 0, none⟩ : Addr).add j = ⟨g, j, none⟩ := by unfold Addr.add; split <;> simp_all
  rw [e, q]
  simp [byteCells, hj]

def digs (l : List Int) (k : Nat) : List UInt8 := (l.take k).map fun z => UInt8.ofNat (48 + z.toNat)
theorem digs_succ {l : List Int} {k z : Nat} (h : k < l.length) (hz : l[k] = (z : Int)) : digs l (k + 1) = digs l k ++ [UInt8.ofNat (48 + z)] := by
  simp [digs, List.take_succ_eq_append_getElem h, hz]
def textK (l : List Int) (k : Nat) : ByteArray := ⟨(digs l k).toArray⟩
theorem textK_succ {l : List Int} {k z : Nat} (h : k < l.length) (hz : l[k] = (z : Int)) : textK l (k + 1) = textK l k ++ numS z := by
  apply ByteArray.ext
  simp [textK, digs_succ h hz, numS]
theorem size_textK {l : List Int} {k : Nat} (h : k ≤ l.length) : (textK l k).size = k := by
  show (digs l k).toArray.size = k
  simp [digs]
  omega
theorem byteCells_succ {l : List Int} {k z : Nat} (h : k < l.length) (hz : l[k] = (z : Int)) (h9 : z ≤ 9) : byteCells (digs l (k + 1)) = byteCells (digs l k) ++ [.int .u8 (48 + (z : Int))] := by
  rw [digs_succ h hz, byteCells_append]
  simp [byteCells, UInt8.toNat_ofNat']
  omega
def textR (l : List Int) : ByteArray := if chB l then textK l l.length else ByteArray.mk #[]

set_option maxRecDepth 100000 in
set_option maxHeartbeats 1000000 in
theorem cmText_any (A : Option Addr) (n c : Nat) (l : List Int) (w : World) (hr : Rd w 1 A n (intCells l)) (hl : ChOK l) :
    Calls Try.prog 49 #[.slice A n c] w fun e w' => e = .returned (.string (textK l n)) ∧ Below w.heap.size w w' := by
  have hll := hr.ilen
  have h6 := hl.2.1
  have HLL := Lib.hid hll
  have HL := Lib.hid hl
  have n6 : n ≤ 6 := by omega
  clear hl hll
  go_enter Try.func49, Try.ntmps49
  go_wp2
  go_loopw [3, 8] (fun s i wr => ∃ (k : Nat) (out : ByteArray), k ≤ n ∧ i = .int .i64 k ∧ s = .string out ∧ Hid (out = textK l k) ∧ out.size = k ∧ Below w.heap.size w wr) (fun _ i _ => n - (intOf i).toNat)
  case atStart => exact ⟨0, ByteArray.mk #[], Nat.zero_le _, rfl, rfl, rfl, rfl, Below.refl _ _⟩
  case round =>
    obtain ⟨k, out, hk, rfl, rfl, hT, hsz, hB⟩ := hrel
    have sB := hB.size
    by_cases hlt : k < n
    · obtain ⟨b1, o1, rfl, _, hx, p1⟩ := (hr.later hB (Nat.le_refl _)).num hlt
      obtain ⟨z, hz⟩ : ∃ z : Nat, l[k] = z := ⟨(l[k]).toNat, by have := HL.out.ge0 k; rw [getD_lt hx] at this; omega⟩
      have hz6 : z ≤ 6 := by have := HL.out.le6 k; rw [getD_lt hx] at this; omega
      have HE := Lib.hid (textK_succ hx hz)
      rw [hz] at p1
      have hns := size_numS z
      clear hx hz
      go_wp2_with fail
      refine (l1Num_any z _ (by omega)).mono ?_; rintro e w2 ⟨rfl, hb2⟩
      generalize numS z = d at *
      have hsz2 : (out ++ d).size = k + 1 := by rw [ByteArray.size_append, hsz, hns]
      go_wp2
      go_roundw
      case rel => exact ⟨k + 1, out ++ d, by omega, by go_num, rfl, by simp only [Hid]; rw [HE.out, hT.out], hsz2, by (repeat (first | (with_reducible exact Below.refl _ _) | (with_reducible assumption) | (with_reducible refine Below.drew ?_) | ((with_reducible refine balloc ?_ _ ?_); · (first | (simp; done) | (simp; omega) | omega)) | ((with_reducible refine bset ?_ _ ?_); · (first | (simp; done) | (simp; omega) | omega)) | (with_reducible refine bdrewN _ ?_) | ((with_reducible refine bcall ?_ (by assumption) ?_); · (first | (simp; done) | (simp; omega) | omega))))⟩
      case measure => simp [intOf]; omega
    · go_wp2
      go_ret
      have hkn : k = n := by omega
      exact ⟨by rw [← hkn, ← hT.out]; rfl, hB⟩

set_option maxHeartbeats 1000000 in
theorem sChompText_any (A : Option Addr) (n c : Nat) (l : List Int) (w : World) (hr : Rd w 1 A n (intCells l)) (hn : n ≤ 1000000000) :
    Calls Try.prog 30 #[.slice A n c] w fun e w' => e = .returned (.tuple #[.string (textR l), .bool (chB l)]) ∧ Below w.heap.size w w' := by
  cases hb : chB l
  · have HT : Hid (textR l = ByteArray.mk #[]) := by simp [Hid, textR, hb]
    rw [HT.out]
    go_enter Try.func30, Try.ntmps30
    go_wp2_with fail
    refine (cmGood_any _ _ _ _ _ hr hn).mono ?_; rintro e w1 ⟨rfl, hb1⟩
    rw [hb]
    go_wp2
    go_ret2
    exact ⟨rfl, hb1⟩
  · have HC := Lib.hid (chB_true.1 hb)
    have HT : Hid (textR l = textK l n) := by simp [Hid, textR, hb, hr.ilen]
    rw [HT.out]
    go_enter Try.func30, Try.ntmps30
    go_wp2_with fail
    refine (cmGood_any _ _ _ _ _ hr hn).mono ?_; rintro e w1 ⟨rfl, hb1⟩
    rw [hb]
    go_wp2_with fail
    refine (cmText_any _ _ _ l _ (hr.later hb1 (Nat.le_refl _)) HC.out).mono ?_; rintro e w2 ⟨rfl, hb2⟩
    go_wp2
    go_ret2
    exact ⟨rfl, hb1.trans (hb2.mono hb1.size)⟩

set_option maxRecDepth 100000 in
set_option maxHeartbeats 1000000 in
theorem chompText_any (A : Option Addr) (n c : Nat) (l : List Int) (w : World) (hr : Rd w 1 A n (intCells l)) (hn : n ≤ 1000000000) :
    Calls Try.prog 31 #[.slice A n c] w fun e w' => e = .returned (.tuple #[.string (textR l), .bool (chB l)]) ∧ Below w.heap.size w w' := by
  cases hb : chB l
  · have HT : Hid (textR l = ByteArray.mk #[]) := by simp [Hid, textR, hb]
    rw [HT.out]
    go_enter Try.func31, Try.ntmps31
    go_wp2_with fail
    refine (isChomp_any _ _ _ _ _ hr hn).mono ?_; rintro e w1 ⟨rfl, hb1⟩
    rw [hb]
    go_wp2
    go_ret2
    exact ⟨rfl, hb1⟩
  · have HC := Lib.hid (chB_true.1 hb)
    have HT : Hid (textR l = textK l n) := by simp [Hid, textR, hb, hr.ilen]
    rw [HT.out]
    have hll := hr.ilen
    have hn6 : n ≤ 6 := by have := HC.out.2.1; omega
    have hn1 : 1 ≤ n := by have := HC.out.1; omega
    have HLL := Lib.hid hll
    obtain ⟨j0, hj, hy0, hy1, hy2⟩ := info_parts byte_info
    clear hll
    go_enter Try.func31, Try.ntmps31
    go_wp2_with fail
    refine (isChomp_any _ _ _ _ _ hr hn).mono ?_; rintro e w1 ⟨rfl, hb1⟩
    rw [hb]
    have s1 := hb1.size
    have hr1 := hr.later hb1 (Nat.le_refl _)
    have HB1 := Lib.hid hb1
    clear hb hb1 hr
    go_wp2
    go_loopw [4, 12] (fun v i wr => ∃ (k : Nat) (A' : Option Addr) (c' : Nat), k ≤ n ∧ i = .int .i64 k ∧ v = .slice A' k c' ∧ wr.ownsRow w1.heap.size 5 1 (.slice A' k c') k (byteCells (digs l k)) ∧ Below w1.heap.size w1 wr) (fun _ i _ => n - (intOf i).toNat)
    case atStart => exact ⟨0, none, 0, Nat.zero_le _, rfl, rfl, World.ownsRow_nil _ _ _ _, Below.refl _ _⟩
    case round =>
      obtain ⟨k, A', c', hk, rfl, rfl, hown, hB⟩ := hrel
      have sB := hB.size
      by_cases hlt : k < n
      · obtain ⟨b1, o1, rfl, _, hx, p1⟩ := (hr1.later hB (Nat.le_refl _)).num hlt
        obtain ⟨z, hz⟩ : ∃ z : Nat, l[k] = z := ⟨(l[k]).toNat, by have := HC.out.ge0 k; rw [getD_lt hx] at this; omega⟩
        have hz6 : z ≤ 6 := by have := HC.out.le6 k; rw [getD_lt hx] at this; omega
        have HE := Lib.hid (byteCells_succ hx hz (by omega))
        rw [hz] at p1
        have hc3 : k + 1 ≤ maxLen := by simp only [maxLen]; omega
        clear hx hz
        go_wp2_with (at_builtin; refine wpList_append_own _ rfl (.tmp 16) (.tmp 20) 57 rfl w1.heap.size 5 j0 (.int .u8 0) 1 1 Try.underlying57 hj hy0 hy1 hy2 rfl (by decide) _ _ _ rfl (hown.alloc _) ⟨wr.heap.size, 0, none⟩ 1 1 [.int .u8 (48 + (z : Int))] rfl rfl (new1 _ _ _) (by intro u hu; simp at hu; subst hu; rfl) hc3 (by omega) (Nat.le_trans sB (show wr.heap.size ≤ _ by simp)) ?_)
        intro v' w2 hown' hgrow _
        have hb2 := gb_new (Nat.le_refl _) (hB.alloc (by omega) (.cells #[.int .u8 (48 + (z : Int))] 5)) hgrow (fun g hg => (hown.lt g hg).1)
        obtain ⟨A2, c2', rfl⟩ := own_slice hown'
        clear hgrow hown hB hc3
        go_wp2
        go_roundw
        case rel => exact ⟨k + 1, A2, c2', by omega, by go_num, rfl, by rw [HE.out]; exact hown', hb2⟩
        case measure => simp [intOf]; omega
      · have hkn : k = n := by omega
        have hst : (convert 57 9 (.slice A' k c')).run Try.prog wr = .ok (.string (textK l k)) wr := run_string_own hown (by omega)
        have HK := Lib.hid hkn
        clear hkn
        generalize htk : textK l k = t at *
        have HTK := Lib.hid htk
        clear htk
        go_wp2
        go_ret2
        exact ⟨by rw [← HK.out, HTK.out]; rfl, HB1.out.trans (hB.mono s1)⟩

end Go.Proofs.Ytclkddehaomdjab
