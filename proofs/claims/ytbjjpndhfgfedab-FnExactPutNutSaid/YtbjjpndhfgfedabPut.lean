/-
  Contracts: a copy of a slice of strings; PutNut of the program and of the model.
-/
import Derived.Test.YtbjjpndhfgfedabTurnI
import Derived.Test.YtbjjpndhfgfedabIsPart
import Derived.Deep.RegionHeld3
namespace Go.Proofs.Ytbjjpndhfgfedab
open Go.RowKit

theorem rd_add {w : World} {n b o : Nat} {xs : List ByteArray} (hr : Rd w 1 (some ⟨b, o, none⟩) n (strCells xs)) : ∀ (j : Nat) (u : Value), (strCells xs)[j]? = some u → w.cell? ((⟨b, o, none⟩ : Addr).add j) = some u := by
  intro j u hu
  have hj : j < n := by have := (List.getElem?_eq_some_iff.1 hu).1; rw [length_strCells, hr.slen] at this; exact this
  obtain ⟨b', o', e, _, hc⟩ := hr.2 (by omega)
  simp only [Option.some.injEq, Addr.mk.injEq, and_true] at e
  obtain ⟨rfl, rfl⟩ := e
  have e1 : (⟨b, o, none⟩ : Addr).add j = ⟨b, o + j, none⟩ := by unfold Addr.add; split <;> simp_all
  rw [e1]
  exact hc j u hu

set_option maxHeartbeats 1000000 in
theorem l1OwnS_any (b o n c : Nat) (xs : List ByteArray) (w : World) (hr : Rd w 1 (some ⟨b, o, none⟩) n (strCells xs)) (hn : n ≤ 8) :
    Calls Try.prog 39 #[.slice (some ⟨b, o, none⟩) n c] w fun e w' => ∃ A' c', e = .returned (.slice A' n c') ∧ w'.ownsRow w.heap.size 9 1 (.slice A' n c') n (strCells xs) ∧ Below w.heap.size w w' := by
  obtain ⟨i0, hi, hz0, hz1, hz2⟩ := info_parts str_info
  have hl := hr.slen
  have HL := Lib.hid hl
  clear hl
  have hne := World.ownsRow_lit (base := w.heap.size) (e := 9) (size := 1) w #[] 0 (Nat.le_refl _) (by simp [maxLen]) rfl
  have hr2 := hr.alloc (.cells #[] 9)
  have hc0 : (strCells xs).length = n * 1 := by rw [length_strCells, HL.out, Nat.mul_one]
  have hc1 := rd_add hr2
  have hc3 : 0 + n ≤ maxLen := by simp only [maxLen]; omega
  have hc4 : (0 + n) * 16 ≤ 140737488355328 := by omega
  have hc5 : w.heap.size ≤ (w.alloc (.cells #[] 9)).heap.size := by simp
  go_enter Try.func39, Try.ntmps39
  go_wp2_with (at_builtin; refine wpList_append_own _ rfl (.tmp 3) (.tmp 4) 22 rfl w.heap.size 9 i0 (.string ByteArray.empty) 1 16 Try.underlying22 hi hz0 hz1 hz2 rfl (by decide) _ _ _ rfl hne ⟨b, o, none⟩ n c (strCells xs) rfl hc0 hc1 (str_oneCell xs) hc3 hc4 hc5 ?_)
  intro v' w2 hown' hgrow _
  have hb2 := gb_new (Nat.le_refl _) ((Below.refl w.heap.size w).alloc (Nat.le_refl _) (.cells #[] 9)) hgrow (fun g hg => (hne.lt g hg).1)
  obtain ⟨A', c', rfl⟩ := own_slice hown'
  clear hc0 hc1 hc3 hc4 hc5
  go_wp2
  go_ret
  exact ⟨A', c', rfl, hown', hb2⟩

set_option maxHeartbeats 1000000 in
theorem slClone_any (b o n c : Nat) (xs : List ByteArray) (w : World) (hr : Rd w 1 (some ⟨b, o, none⟩) n (strCells xs)) (hn : n ≤ 8) :
    Calls Try.prog 43 #[.slice (some ⟨b, o, none⟩) n c] w fun e w' => ∃ A' c', e = .returned (.slice A' n c') ∧ w'.ownsRow w.heap.size 9 1 (.slice A' n c') n (strCells xs) ∧ Below w.heap.size w w' := by
  obtain ⟨i0, hi, hz0, hz1, hz2⟩ := info_parts str_info
  have hl := hr.slen
  have HL := Lib.hid hl
  clear hl
  have hne := World.ownsRow_lit (base := w.heap.size) (e := 9) (size := 1) w #[] 0 (Nat.le_refl _) (by simp [maxLen]) rfl
  have hr2 := hr.alloc (.cells #[] 9)
  have hc0 : (strCells xs).length = n * 1 := by rw [length_strCells, HL.out, Nat.mul_one]
  have hc1 := rd_add hr2
  have hc3 : 0 + n ≤ maxLen := by simp only [maxLen]; omega
  have hc4 : (0 + n) * 16 ≤ 140737488355328 := by omega
  have hc5 : w.heap.size ≤ (w.alloc (.cells #[] 9)).heap.size := by simp
  have hnil := fun wx => Lib.run_eql_slice_nil (P := Try.prog) wx 22 9 (some ⟨b, o, none⟩) n c 0 0 Try.underlying22
  go_enter Try.func43, Try.ntmps43
  go_wp2_with (at_builtin; refine wpList_append_own _ rfl (.tmp 5) (.tmp 6) 22 rfl w.heap.size 9 i0 (.string ByteArray.empty) 1 16 Try.underlying22 hi hz0 hz1 hz2 rfl (by decide) _ _ _ rfl hne ⟨b, o, none⟩ n c (strCells xs) rfl hc0 hc1 (str_oneCell xs) hc3 hc4 hc5 ?_)
  intro v' w2 hown' hgrow _
  have hb2 := gb_new (Nat.le_refl _) ((Below.refl w.heap.size w).alloc (Nat.le_refl _) (.cells #[] 9)) hgrow (fun g hg => (hne.lt g hg).1)
  obtain ⟨A', c', rfl⟩ := own_slice hown'
  clear hc0 hc1 hc3 hc4 hc5
  go_wp2
  go_ret
  exact ⟨A', c', rfl, hown', hb2⟩

/-- a digit of one more -/
def numS (k : Nat) : ByteArray := ByteArray.mk #[UInt8.ofNat (48 + k)]
theorem one_num (w : World) (k : Nat) (hk : k < 10) :
    (convert 64 9 (.slice (some ⟨w.heap.size, 0, none⟩) 1 1)).run Try.prog (w.alloc (.cells #[.int .u8 (48 + (k : Int))] 5)) = .ok (.string (numS k)) (w.alloc (.cells #[.int .u8 (48 + (k : Int))] 5)) := by
  have h := run_convert_bytes_back (P := Try.prog) (w.alloc (.cells #[.int .u8 (48 + (k : Int))] 5)) 64 9 5 ⟨w.heap.size, 0, none⟩ 1 [UInt8.ofNat (48 + k)] Try.underlying64 Try.underlying5 Try.underlying9 (fun j hj => by
    have : j = 0 := by simp at hj; omega
    subst this
    simp only [Addr.add, go_sem]
    simp [UInt8.toNat_ofNat']
    omega)
  exact h
set_option maxHeartbeats 400000 in
theorem l1Num_any (k : Nat) (w : World) (hk : k < 10) :
    Calls Try.prog 40 #[.int .i64 k] w fun e w' => e = .returned (.string (numS k)) ∧ Below w.heap.size w w' := by
  have hback := one_num w k hk
  go_enter Try.func40, Try.ntmps40
  go_wp2
  go_ret
  exact ⟨rfl, by (repeat (first | (with_reducible exact Below.refl _ _) | (with_reducible assumption) | (with_reducible refine Below.drew ?_) | ((with_reducible refine balloc ?_ _ ?_); · (first | (simp; done) | (simp; omega) | omega)) | ((with_reducible refine bset ?_ _ ?_); · (first | (simp; done) | (simp; omega) | omega)) | (with_reducible refine bdrewN _ ?_) | ((with_reducible refine bcall ?_ (by assumption) ?_); · (first | (simp; done) | (simp; omega) | omega))))⟩
theorem l1Num_int (k : Int) (w : World) (h0 : 0 ≤ k) (hk : k < 10) :
    Calls Try.prog 40 #[.int .i64 k] w fun e w' => e = .returned (.string (numS k.toNat)) ∧ Below w.heap.size w w' := by
  obtain ⟨m, rfl⟩ := Int.eq_ofNat_of_zero_le h0
  exact l1Num_any m w (by omega)

/-- a text with one byte raised by one -/
def incS (s : ByteArray) (x : Nat) : ByteArray := ⟨(s.data.toList.take x ++ (s.data[x]?.getD 48 + 1) :: s.data.toList.drop (x + 1)).toArray⟩
theorem incS_parts {s : ByteArray} {x : Nat} (h : x < s.size) (h1 : 48 ≤ (s[x]).toNat) (h2 : (s[x]).toNat ≤ 56) :
    s.extract 0 x ++ numS ((((s[x]).toNat : Int) - 48 + 1).toNat) ++ s.extract (x + 1) s.size = incS s x := by
  have hd : x < s.data.size := h
  have e : s.data[x]?.getD 48 = s[x] := by rw [Array.getElem?_eq_getElem hd]; rfl
  have e2 : UInt8.ofNat (48 + (((s[x]).toNat : Int) - 48 + 1).toNat) = s[x] + 1 := by
    apply UInt8.toNat_inj.1
    rw [UInt8.toNat_ofNat', UInt8.toNat_add]
    simp
    omega
  apply ByteArray.ext
  simp only [incS, numS, ByteArray.data_append, ByteArray.data_extract, e, e2]
  apply Array.ext'
  have l : s.data.toList.length = s.size := by show s.data.toList.length = s.data.size; simp
  simp only [Array.toList_append, Array.toList_extract, List.extract_eq_take_drop, List.drop_zero, Nat.sub_zero, List.cons_append, List.nil_append, List.append_assoc]
  rw [List.take_of_length_le (l := List.drop (x + 1) s.data.toList) (by rw [List.length_drop, l]; exact Nat.le_refl _)]
theorem incS_set {s : ByteArray} {x : Nat} (h : x < s.size) : (byteCells s.data.toList).set x (.int .u8 ((s[x] + 1).toNat)) = byteCells (incS s x).data.toList := by
  have hd : x < s.data.size := h
  have e : s.data[x]?.getD 48 = s[x] := by rw [Array.getElem?_eq_getElem hd]; rfl
  simp only [incS, byteCells, e, List.map_append, List.map_cons, List.map_take, List.map_drop]
  rw [List.set_eq_take_append_cons_drop, if_pos (by simpa using hd)]

def putOk (ss : List ByteArray) (x y : Int) : Bool := nutsB ss && inB x 0 ((nutW ss : Int) - 1) && inB y 0 ((ss.length : Int) - 1) && decide (nutV ss y.toNat x.toNat ≠ 9)
def putL (ss : List ByteArray) (x y : Nat) : List ByteArray := ss.set y (incS (ss[y]?.getD ByteArray.empty) x)
def putR (ss : List ByteArray) (x y : Int) : List ByteArray := if putOk ss x y then putL ss x.toNat y.toNat else []
theorem putR_no {ss : List ByteArray} {x y : Int} (h : putOk ss x y = false) : putR ss x y = [] := by unfold putR; rw [h]; rfl
theorem putR_yes {ss : List ByteArray} {x y : Int} (h : putOk ss x y = true) : putR ss x y = putL ss x.toNat y.toNat := by unfold putR; rw [h]; rfl
theorem length_putR (ss : List ByteArray) (x y : Int) : (putR ss x y).length ≤ 8 := by
  unfold putR
  split
  · rename_i h
    simp only [putOk, Bool.and_eq_true] at h
    have := (NB.of h.1.1.1).h8
    simp [putL]
    omega
  · simp

/-- the ways of PutNut -/
theorem put_cases {p : Prop} (ss : List ByteArray) (n W : Nat) (x y : Int) (hl : ss.length = n)
    (h1 : nutsB ss = false → putOk ss x y = false → p)
    (h2 : NB ss W n → nutsB ss = true → inB x 0 ((W : Int) - 1) = false → putOk ss x y = false → p)
    (h3 : NB ss W n → nutsB ss = true → inB x 0 ((W : Int) - 1) = true → inB y 0 ((n : Int) - 1) = false → putOk ss x y = false → p)
    (h4 : ∀ X Y : Nat, x = X → y = Y → X < W → Y < n → NB ss W n → nutsB ss = true → inB X 0 ((W : Int) - 1) = true → inB Y 0 ((n : Int) - 1) = true → nutV ss Y X = 9 → putOk ss X Y = false → p)
    (h5 : ∀ X Y : Nat, x = X → y = Y → X < W → Y < n → NB ss W n → nutsB ss = true → inB X 0 ((W : Int) - 1) = true → inB Y 0 ((n : Int) - 1) = true → nutV ss Y X ≠ 9 → putOk ss X Y = true → p) (hW : nutsB ss = true → nutW ss = W) : p := by
  cases hB : nutsB ss
  · exact h1 hB (by simp [putOk, hB])
  · have hb := NB.of hB
    rw [hl, hW hB] at hb
    have e : nutW ss = W := hW hB
    cases hx : inB x 0 ((W : Int) - 1)
    · exact h2 hb hB hx (by simp [putOk, e, hx])
    · cases hy : inB y 0 ((n : Int) - 1)
      · exact h3 hb hB hx hy (by simp [putOk, hl, hy])
      · have hx' : 0 ≤ x ∧ x ≤ (W : Int) - 1 := by simpa [inB] using hx
        have hy' : 0 ≤ y ∧ y ≤ (n : Int) - 1 := by simpa [inB] using hy
        obtain ⟨X, rfl⟩ := Int.eq_ofNat_of_zero_le hx'.1
        obtain ⟨Y, rfl⟩ := Int.eq_ofNat_of_zero_le hy'.1
        by_cases hv : nutV ss Y X = 9
        · exact h4 X Y rfl rfl (by omega) (by omega) hb hB hx hy hv (by simp [putOk, hv])
        · exact h5 X Y rfl rfl (by omega) (by omega) hb hB hx hy hv (by simp [putOk, hB, e, hl, hx, hy, hv])

set_option maxRecDepth 100000 in
set_option maxHeartbeats 4000000 in
theorem sPutNut_any (A : Option Addr) (n c : Nat) (ss : List ByteArray) (x y : Int) (w : World) (hr : Rd w 1 A n (strCells ss)) :
    Calls Try.prog 16 #[.slice A n c, .int .i64 x, .int .i64 y] w fun e w' => ∃ A' n' c', e = .returned (.tuple #[.slice A' n' c', .bool (putOk ss x y)]) ∧ w'.ownsRow w.heap.size 9 1 (.slice A' n' c') n' (strCells (putR ss x y)) ∧ Below w.heap.size w w' := by
  refine put_cases ss n (nutW ss) x y hr.slen ?_ ?_ ?_ ?_ ?_ (fun _ => rfl)
  · intro hB hk
    rw [putR_no hk, hk]
    clear hk
    go_enter Try.func16, Try.ntmps16
    go_wp2_with fail
    refine (ntGood_any _ _ _ _ _ hr).mono ?_; rintro e w1 ⟨rfl, rfl⟩
    go_wp2
    go_ret2
    exact ⟨none, 0, 0, rfl, World.ownsRow_nil _ _ _ _, Below.refl _ _⟩
  · intro hb hB hx hk
    rw [putR_no hk, hk]
    clear hk
    generalize nutW ss = W at *
    obtain ⟨b, o, rfl, hbl, s0, p0, hs0, hd0⟩ := hr.nut0 hb
    have hs := hs0.out
    subst hs
    have hn1 := hb.h1
    have hz8 := hb.w8
    go_enter Try.func16, Try.ntmps16
    go_wp2_with fail
    refine (ntGood_any _ _ _ _ _ hr).mono ?_; rintro e w1 ⟨rfl, rfl⟩
    go_wp2_with fail
    refine (l1In_any _ _ _ _).mono ?_; rintro e w1 ⟨rfl, rfl⟩
    go_wp2
    go_ret2
    exact ⟨none, 0, 0, rfl, World.ownsRow_nil _ _ _ _, Below.refl _ _⟩
  · intro hb hB hx hy hk
    rw [putR_no hk, hk]
    clear hk
    generalize nutW ss = W at *
    obtain ⟨b, o, rfl, hbl, s0, p0, hs0, hd0⟩ := hr.nut0 hb
    have hs := hs0.out
    subst hs
    have hn1 := hb.h1
    have hn8 := hb.h8
    have hz8 := hb.w8
    go_enter Try.func16, Try.ntmps16
    go_wp2_with fail
    refine (ntGood_any _ _ _ _ _ hr).mono ?_; rintro e w1 ⟨rfl, rfl⟩
    go_wp2_with fail
    refine (l1In_any _ _ _ _).mono ?_; rintro e w1 ⟨rfl, rfl⟩
    go_wp2_with fail
    refine (l1In_any _ _ _ _).mono ?_; rintro e w1 ⟨rfl, rfl⟩
    go_wp2
    go_ret2
    exact ⟨none, 0, 0, rfl, World.ownsRow_nil _ _ _ _, Below.refl _ _⟩
  · rintro X Y rfl rfl hXW hYn hb hB hx hy hv hk
    rw [putR_no hk, hk]
    clear hk
    generalize nutW ss = W at *
    obtain ⟨b, o, rfl, hbl, s0, p0, hs0, hd0⟩ := hr.nut0 hb
    obtain ⟨s, p, hz, hxs, c1, c2, hby, hval⟩ := hr.nut hb hYn hXW
    have hs := hs0.out
    subst hs
    have hn1 := hb.h1
    have hn8 := hb.h8
    have hz8 := hb.w8
    have hc9 : (s[X]).toNat = 57 := by have := hval.out; rw [hv] at this; omega
    have hc9' : (57 : Int) ≤ (s[X]).toNat := by omega
    have HC9 := Lib.hid hc9
    clear hc9 hv
    go_enter Try.func16, Try.ntmps16
    go_wp2_with fail
    refine (ntGood_any _ _ _ _ _ hr).mono ?_; rintro e w1 ⟨rfl, rfl⟩
    go_wp2_with fail
    refine (l1In_any _ _ _ _).mono ?_; rintro e w1 ⟨rfl, rfl⟩
    go_wp2_with fail
    refine (l1In_any _ _ _ _).mono ?_; rintro e w1 ⟨rfl, rfl⟩
    go_wp2
    go_ret2
    exact ⟨none, 0, 0, rfl, World.ownsRow_nil _ _ _ _, Below.refl _ _⟩
  · rintro X Y rfl rfl hXW hYn hb hB hx hy hv hk
    rw [putR_yes hk, hk]
    clear hk
    simp only [Int.toNat_natCast]
    generalize nutW ss = W at *
    obtain ⟨b, o, rfl, hbl, s0, p0, hs0, hd0⟩ := hr.nut0 hb
    obtain ⟨s, p, hz, hxs, c1, c2, hby, hval⟩ := hr.nut hb hYn hXW
    have hs := hs0.out
    subst hs
    have hn1 := hb.h1
    have hn8 := hb.h8
    have hz8 := hb.w8
    have hzs : s.size ≤ 8 := by have := hz.out; omega
    have hc9 : (s[X]).toNat ≤ 56 := by have := hval.out; omega
    clear hv
    have HP : Hid (putL ss X Y = ss.set Y (incS s X)) := by
      obtain ⟨hx', q⟩ := hr.strAt hYn
      have e : ss[Y] = s := by rw [p] at q; simpa using q.symm
      simp only [Hid, putL]
      rw [List.getElem?_eq_getElem hx', e, Option.getD_some]
    go_enter Try.func16, Try.ntmps16
    go_wp2_with fail
    refine (ntGood_any _ _ _ _ _ hr).mono ?_; rintro e w1 ⟨rfl, rfl⟩
    go_wp2_with fail
    refine (l1In_any _ _ _ _).mono ?_; rintro e w1 ⟨rfl, rfl⟩
    go_wp2_with fail
    refine (l1In_any _ _ _ _).mono ?_; rintro e w1 ⟨rfl, rfl⟩
    go_wp2_with fail
    refine (l1OwnS_any _ _ _ _ ss _ hr hn8).mono ?_; rintro e w2 ⟨A2, c2', rfl, own2, hb2⟩
    have s2 := hb2.size
    obtain ⟨g, rfl, hg1, hg2⟩ := own_at own2 (by omega)
    have pp := (hb2.cell (p := ⟨b, o + Y, none⟩) hbl).trans p
    have lcs : (strCells ss).length = n * 1 := own2.1
    have a0 := own2.cellAt Y (by omega)
    rw [List.getElem?_eq_getElem (by omega)] at a0
    have f0 := own2.frozenAt Y
    generalize (strCells ss)[Y] = v0 at a0
    have HI := Lib.hid (incS_parts hxs c1 hc9)
    have q1 : (s.extract 0 X).size ≤ 8 := by simp; omega
    have q2 : (s.extract (X + 1) s.size).size ≤ 8 := by simp; omega
    have pg : b ≠ g := by omega
    have u1 : IntKind.u8.wrap (((s[X]).toNat : Int) - 48) = ((s[X]).toNat : Int) - 48 := IntWalk.u8_in _ (by omega)
    have u2 : IntKind.i64.wrap (((s[X]).toNat : Int) - 48) = ((s[X]).toNat : Int) - 48 := IntWalk.i64_in _ (by omega)
    have u3 : IntKind.i64.wrap (((s[X]).toNat : Int) - 48 + 1) = ((s[X]).toNat : Int) - 48 + 1 := IntWalk.i64_in _ (by omega)
    have u4 : IntKind.i64.wrap ((X : Int) + 1) = (X : Int) + 1 := IntWalk.i64_in _ (by omega)
    have u5 : ((X : Int) + 1).toNat = X + 1 := by omega
    have u6 : (0 : Int) ≤ (X : Int) := by omega
    have u7 : (X : Int) ≤ s.size := by omega
    have u8 : (0 : Int) ≤ (X : Int) + 1 := by omega
    have u9 : (X : Int) + 1 ≤ s.size := by omega
    have ua : (X : Int) < s.size := by omega
    have ub : (Y : Int) < n := by omega
    have uc : (0 : Int) ≤ (Y : Int) := by omega
    have ud : (0 : Int) ≤ ((s[X]).toNat : Int) - 48 + 1 := by omega
    have ue : ((s[X]).toNat : Int) - 48 + 1 < 10 := by omega
    have uz : (numS (((s[X]).toNat : Int) - 48 + 1).toNat).size = 1 := rfl
    have uf : ¬ (9223372036854775807 < min X s.size + 1) := by omega
    have ug : ¬ (9223372036854775807 < min X s.size + 1 + (s.size - (X + 1))) := by omega
    have uh : decide (9223372036854775807 < min X s.size + 1) = false := by simpa using uf
    have ui : decide (9223372036854775807 < min X s.size + 1 + (s.size - (X + 1))) = false := by simpa using ug
    clear q1 q2
    have HL := Lib.hid lcs
    clear lcs
    go_wp2
    go_region_held3 (fun w' => w'.cell? ⟨b, o + Y, none⟩ = some (.string s))
      (((try dsimp only); (repeat' apply And.intro); all_goals ((repeat (first | (with_reducible refine cell_drew ?_) | (with_reducible refine cell_drewN _ ?_) | ((with_reducible refine cell_alloc ?_ ?_); · first | omega | (simp; done) | (simp; omega) | assumption) | ((with_reducible refine cell_set ?_ ?_); · first | (intro e; injection e; omega) | (intro e; simp at e; done) | (intro e; simp at e; omega)))); first | assumption | (simp; done))))
      (first | (go_at_call 40; refine (l1Num_int _ _ ud ue).mono ?_; rintro e w1 ⟨rfl, hb1⟩; obtain ⟨hc1, hf1⟩ := bcell hb1; have s1 := hb1.size; (try simp at s1); have z1 : b < w1.heap.size := (by omega); have z2 : g < w1.heap.size := (by omega); have k0 : w1.cell? ⟨b, o + Y, none⟩ = some (.string s) := (hc1 _ _ (by first | (simp; done) | (simp; omega))).trans (by first | assumption | (go_split_ands; assumption)); have k1 : w1.cell? ⟨g, Y, none⟩ = some v0 := (hc1 _ _ (by first | (simp; done) | (simp; omega))).trans (by (repeat (first | (with_reducible refine cell_drew ?_) | (with_reducible refine cell_drewN _ ?_) | ((with_reducible refine cell_alloc ?_ ?_); · first | omega | (simp; done) | (simp; omega) | assumption) | ((with_reducible refine cell_set ?_ ?_); · first | (intro e; injection e; omega) | (intro e; simp at e; done) | (intro e; simp at e; omega)))); assumption); have k2 : w1.frozen? ⟨g, Y, none⟩ = false := (hf1 _ _ (by first | (simp; done) | (simp; omega))).trans (by first | assumption | (simp; assumption))))
    have hb21 : Below w2.heap.size w2 w1 := bcall (B := w2.heap.size) (a := w2) (b := w2.drew) (c := w1) (by simp) hb1 (Below.refl _ _).drew
    have own3 := own_later own2 hb21 (Nat.le_refl _)
    have st := (own3.stored Y (.string (s.extract 0 X ++ numS (((s[X]).toNat : Int) - 48 + 1).toNat ++ s.extract (X + 1) s.size))).1
    rw [set_strCells] at st
    have ST := Lib.hid st
    clear st own3 own2
    go_wp2
    go_ret2
    refine ⟨some ⟨g, 0, none⟩, n, c2', rfl, by rw [HP.out, ← HI.out]; exact ST.out, ?_⟩
    exact bset hg1 _ (bcall (by omega) hb21 hb2)

/-- '[]byte(s)' -/
theorem bytes_of (w : World) (s : ByteArray) : ∃ (cap : Nat) (w3 : World), (convert 9 64 (.string s)).run Try.prog w = .ok (.slice (some ⟨w.heap.size, 0, none⟩) s.size cap) w3 ∧ Below w.heap.size w w3 ∧ w.heap.size < w3.heap.size ∧
    (∀ j (hj : j < s.size), w3.cell? ⟨w.heap.size, j, none⟩ = some (.int .u8 (s[j]).toNat)) ∧ (∀ j, j < s.size → w3.frozen? ⟨w.heap.size, j, none⟩ = false) := by
  have h := run_bytes_of_string (P := Try.prog) w 9 64 5 s Try.underlying9 Try.underlying64 Try.underlying5
  refine ⟨_, _, h, ((Below.refl _ _).drew).alloc (Nat.le_refl _) _, by simp, fun j hj => ?_, fun j hj => ?_⟩
  · exact (World.cell?_alloc_mark w.drew _ _ _ j).trans (bytesRow_at s _ j hj)
  · refine (World.frozen?_alloc_mark w.drew _ _ _ _ j).trans ?_
    have : j < (bytesRow s (grownCap w s.size 0 5)).size := by
      unfold bytesRow
      simp only [Array.size_append, Array.size_map]
      have : j < s.data.size := hj
      omega
    rw [decide_eq_false (by omega)]
    rfl

/-- 'string(b)' where the bytes of b are known one by one -/
theorem string_of (w : World) (g n cap : Nat) (l : List UInt8) (hl : l.length = n) (h : ∀ j (hj : j < l.length), w.cell? ⟨g, j, none⟩ = some (.int .u8 (l[j]).toNat)) :
    (convert 64 9 (.slice (some ⟨g, 0, none⟩) n cap)).run Try.prog w = .ok (.string ⟨l.toArray⟩) w := by
  subst hl
  refine run_convert_bytes_back (P := Try.prog) w 64 9 5 ⟨g, 0, none⟩ cap l Try.underlying64 Try.underlying5 Try.underlying9 (fun j hj => ?_)
  have e : (⟨g, 0, none⟩ : Addr).add j = ⟨g, j, none⟩ := by unfold Addr.add; split <;> simp_all
  rw [e]
  exact h j hj
theorem string_ofB (w : World) (g n cap : Nat) (t : ByteArray) (ht : t.data.toList.length = n) (h : ∀ j (hj : j < t.data.toList.length), w.cell? ⟨g, j, none⟩ = some (.int .u8 (t.data.toList[j]).toNat)) :
    (convert 64 9 (.slice (some ⟨g, 0, none⟩) n cap)).run Try.prog w = .ok (.string t) w :=
  string_of w g n cap t.data.toList ht h
theorem incS_len {s : ByteArray} {x : Nat} (h : x < s.size) : (incS s x).data.toList.length = s.size := by
  have hd : x < s.data.size := h
  show (s.data.toList.take x ++ (s.data[x]?.getD 48 + 1) :: s.data.toList.drop (x + 1)).toArray.toList.length = s.data.size
  simp
  omega
theorem incS_at {s : ByteArray} {x : Nat} (h : x < s.size) (j : Nat) (hj : j < (incS s x).data.toList.length) : ∃ hs : j < s.size, (incS s x).data.toList[j] = if j = x then s[x] + 1 else s[j] := by
  have hd : x < s.data.size := h
  have e : s.data[x]?.getD 48 = s[x] := by rw [Array.getElem?_eq_getElem hd]; rfl
  have hlen : (incS s x).data.toList.length = s.size := by
    show (s.data.toList.take x ++ (s.data[x]?.getD 48 + 1) :: s.data.toList.drop (x + 1)).toArray.toList.length = s.data.size
    simp
    omega
  have hjs : j < s.size := by omega
  refine ⟨hjs, ?_⟩
  have q : (incS s x).data.toList = s.data.toList.set x (s[x] + 1) := by
    show (s.data.toList.take x ++ (s.data[x]?.getD 48 + 1) :: s.data.toList.drop (x + 1)).toArray.toList = _
    rw [e, List.set_eq_take_append_cons_drop, if_pos (by simpa using hd)]
  have hjd : j < s.data.size := hjs
  have q2 : (s.data.toList.set x (s[x] + 1))[j]'(by simpa using hjd) = if j = x then s[x] + 1 else s[j] := by
    rw [List.getElem_set]
    by_cases hjx : j = x
    · rw [if_pos hjx.symm, if_pos hjx]
    · rw [if_neg (fun h => hjx h.symm), if_neg hjx]
      rfl
  simp only [q]
  exact q2

set_option maxRecDepth 100000 in
set_option maxHeartbeats 4000000 in
theorem putNut_any (A : Option Addr) (n c : Nat) (ss : List ByteArray) (x y : Int) (w : World) (hr : Rd w 1 A n (strCells ss)) :
    Calls Try.prog 17 #[.slice A n c, .int .i64 x, .int .i64 y] w fun e w' => ∃ A' n' c', e = .returned (.tuple #[.slice A' n' c', .bool (putOk ss x y)]) ∧ w'.ownsRow w.heap.size 9 1 (.slice A' n' c') n' (strCells (putR ss x y)) ∧ Below w.heap.size w w' := by
  refine put_cases ss n (nutW ss) x y hr.slen ?_ ?_ ?_ ?_ ?_ (fun _ => rfl)
  · intro hB hk
    rw [putR_no hk, hk]
    clear hk
    go_enter Try.func17, Try.ntmps17
    go_wp2_with fail
    refine (areNuts_any _ _ _ _ _ hr).mono ?_; rintro e w1 ⟨rfl, rfl⟩
    go_wp2
    go_ret2
    exact ⟨none, 0, 0, rfl, World.ownsRow_nil _ _ _ _, Below.refl _ _⟩
  · intro hb hB hx hk
    rw [putR_no hk, hk]
    clear hk
    have hp : partB (nutW ss) n x y 1 1 = false := by
      simp only [inB, decide_eq_false_iff_not] at hx
      have : decide (0 ≤ x) = false ∨ decide (x ≤ (nutW ss : Int) - 1) = false := by simp only [decide_eq_false_iff_not]; omega
      rcases this with q | q <;> simp [partB, q]
    have w8 := hb.w8
    have h8 := hb.h8
    go_enter Try.func17, Try.ntmps17
    go_wp2_with fail
    refine (areNuts_any _ _ _ _ _ hr).mono ?_; rintro e w1 ⟨rfl, rfl⟩
    go_wp2_with fail
    refine (barOf_any _ _ _ _ ss _ hr hb).mono ?_; rintro e w1 ⟨rfl, hb1⟩
    go_wp2_with fail
    refine (isPart_any _ _ _ _ _ _ _ (by omega) (by omega) (by omega) (by omega)).mono ?_; rintro e w2 ⟨rfl, hb2⟩
    go_wp2
    go_ret2
    exact ⟨none, 0, 0, rfl, World.ownsRow_nil _ _ _ _, bcall hb1.size hb2 hb1⟩
  · intro hb hB hx hy hk
    rw [putR_no hk, hk]
    clear hk
    have hp : partB (nutW ss) n x y 1 1 = false := by
      simp only [inB, decide_eq_false_iff_not] at hy
      have : decide (0 ≤ y) = false ∨ decide (y ≤ (n : Int) - 1) = false := by simp only [decide_eq_false_iff_not]; omega
      rcases this with q | q <;> simp [partB, q]
    have w8 := hb.w8
    have h8 := hb.h8
    go_enter Try.func17, Try.ntmps17
    go_wp2_with fail
    refine (areNuts_any _ _ _ _ _ hr).mono ?_; rintro e w1 ⟨rfl, rfl⟩
    go_wp2_with fail
    refine (barOf_any _ _ _ _ ss _ hr hb).mono ?_; rintro e w1 ⟨rfl, hb1⟩
    go_wp2_with fail
    refine (isPart_any _ _ _ _ _ _ _ (by omega) (by omega) (by omega) (by omega)).mono ?_; rintro e w2 ⟨rfl, hb2⟩
    go_wp2
    go_ret2
    exact ⟨none, 0, 0, rfl, World.ownsRow_nil _ _ _ _, bcall hb1.size hb2 hb1⟩
  · rintro X Y rfl rfl hXW hYn hb hB hx hy hv hk
    rw [putR_no hk, hk]
    clear hk
    have hp : partB (nutW ss) n X Y 1 1 = true := by simp [partB, barB]; omega
    have w8 := hb.w8
    have h8 := hb.h8
    have HV := Lib.hid hv
    go_enter Try.func17, Try.ntmps17
    go_wp2_with fail
    refine (areNuts_any _ _ _ _ _ hr).mono ?_; rintro e w1 ⟨rfl, rfl⟩
    go_wp2_with fail
    refine (barOf_any _ _ _ _ ss _ hr hb).mono ?_; rintro e w1 ⟨rfl, hb1⟩
    go_wp2_with fail
    refine (isPart_any _ _ _ _ _ _ _ (by omega) (by omega) (by omega) (by omega)).mono ?_; rintro e w2 ⟨rfl, hb2⟩
    have hb20 := bcall hb1.size hb2 hb1
    go_wp2_with fail
    refine (nutsAt_any _ _ _ _ _ _ ss _ (hr.later hb20 (Nat.le_refl _)) hb hXW hYn).mono ?_; rintro e wx ⟨rfl, rfl⟩
    go_wp2
    go_ret2
    exact ⟨none, 0, 0, rfl, World.ownsRow_nil _ _ _ _, hb20⟩
  · rintro X Y rfl rfl hXW hYn hb hB hx hy hv hk
    rw [putR_yes hk, hk]
    clear hk
    simp only [Int.toNat_natCast]
    have hp : partB (nutW ss) n X Y 1 1 = true := by simp [partB, barB]; omega
    have w8 := hb.w8
    have h8 := hb.h8
    have hv1 : ((nutV ss Y X : Int) == 9) = false := by simp; omega
    have hv2 : nutV ss Y X ≤ 8 := by have := hb.val_le hYn hXW; omega
    obtain ⟨b, o, rfl, hbl, _, _, _, _⟩ := hr.nut0 hb
    clear hv
    go_enter Try.func17, Try.ntmps17
    go_wp2_with fail
    refine (areNuts_any _ _ _ _ _ hr).mono ?_; rintro e w1 ⟨rfl, rfl⟩
    go_wp2_with fail
    refine (barOf_any _ _ _ _ ss _ hr hb).mono ?_; rintro e w1 ⟨rfl, hb1⟩
    go_wp2_with fail
    refine (isPart_any _ _ _ _ _ _ _ (by omega) (by omega) (by omega) (by omega)).mono ?_; rintro e w2 ⟨rfl, hb2⟩
    have hb20 := bcall hb1.size hb2 hb1
    have hr2 := hr.later hb20 (Nat.le_refl _)
    go_wp2_with fail
    refine (nutsAt_any _ _ _ _ _ _ ss _ hr2 hb hXW hYn).mono ?_; rintro e wx ⟨rfl, rfl⟩
    have sz2 := hb20.size
    obtain ⟨s, p, hz, hxs, c1, c2, hby, hval⟩ := hr2.nut hb hYn hXW
    have hzs : s.size ≤ 8 := by have := hz.out; omega
    have hc9 : (s[X]).toNat ≤ 56 := by have := hval.out; omega
    have HP : Hid (putL ss X Y = ss.set Y (incS s X)) := by
      obtain ⟨hx', q⟩ := hr2.strAt hYn
      have e : ss[Y] = s := by rw [p] at q; simpa using q.symm
      simp only [Hid, putL]
      rw [List.getElem?_eq_getElem hx', e, Option.getD_some]
    obtain ⟨cap, w3, hconv, hb3, hl3, hcells, hfr⟩ := bytes_of w2 s
    have HC := Lib.hid hcells
    have cX := hcells X hxs
    have fX := hfr X hxs
    have HF := Lib.hid hfr
    clear hcells hfr hb1 hb2
    go_wp2_with fail
    have hb3s : Below w2.heap.size w2 (w3.setCell ⟨w2.heap.size, X, none⟩ (.int .u8 (((s[X]).toNat : Int) + 1))) := hb3.setCell (Nat.le_refl _) _
    refine (slClone_any _ _ _ _ ss _ (hr2.later hb3s (Nat.le_refl _)) h8).mono ?_; rintro e w4 ⟨A4, c4', rfl, own4, hb4⟩
    have s4 := hb4.size
    simp at s4
    have hback := string_ofB w4 w2.heap.size s.size cap (incS s X) (incS_len hxs) (fun j hj => by
      obtain ⟨hjs, e⟩ := incS_at hxs j hj
      rw [e, hb4.cell (p := ⟨w2.heap.size, j, none⟩) (by simp; omega)]
      by_cases hjX : j = X
      · subst hjX
        rw [if_pos rfl, World.cell?_setCell_same _ _ _ cX]
        have : (s[j] + 1).toNat = (s[j]).toNat + 1 := by rw [UInt8.toNat_add]; simp; omega
        rw [this]
        rfl
      · rw [if_neg hjX, World.cell?_setCell_other _ _ _ _ (by intro e2; injection e2 with _ e3; exact hjX e3.symm)]
        exact HC.out j hjs)
    obtain ⟨g, rfl, hg1, hg2⟩ := own_at own4 (by omega)
    simp at hg1
    have lcs : (strCells ss).length = n * 1 := own4.1
    have a0 := own4.cellAt Y (by omega)
    rw [List.getElem?_eq_getElem (by omega)] at a0
    have f0 := own4.frozenAt Y
    generalize (strCells ss)[Y] = v0 at a0
    have st := (own4.stored Y (.string (incS s X))).1
    rw [set_strCells, ← HP.out] at st
    have hb24 : Below w2.heap.size w2 w4 := bcall (by simp; omega) hb4 hb3s
    have own5 := own_base st (B' := w.heap.size) (by simp; omega)
    have fin : Below w.heap.size w (w4.setCell ⟨g, Y, none⟩ (.string (incS s X))) := bset (by simp; omega) _ (bcall sz2 hb24 hb20)
    clear st own4 lcs hb24 hb4 hb3s hb3 cX fX
    go_wp2
    go_ret2
    exact ⟨some ⟨g, 0, none⟩, n, c4', rfl, own5, fin⟩

end Go.Proofs.Ytbjjpndhfgfedab
