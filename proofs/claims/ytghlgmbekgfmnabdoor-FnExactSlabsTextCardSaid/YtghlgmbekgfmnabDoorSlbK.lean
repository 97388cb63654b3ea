/-
  Slices of slabs that came in, opened to their cells; the laws' conversion, size, comparison and marks of slices of slabs.
-/
import Derived.Test.YtghlgmbekgfmnabDoorOpenI
import Derived.ProofKit
import Derived.OpenShut
import Derived.Lib.SmallJoins
import Derived.Deep.Slices
import Derived.Deep.Strs
import Derived.StillTailTactics
namespace Go.Proofs.YtghlgmbekgfmnabDoor
open Go.ChangeShapes Go.WideShapes Go.ChangeAt Go.RowKit Go.Joins Go.Deep

set_option maxHeartbeats 400000 in
theorem toSlab_any (x y : Int) (w : World) :
    Calls Tryd.prog 27 #[bar2 x y] w fun e w' => e = .returned (bar2 x y) ∧ Below w.heap.size w w' := by
  go_enter Tryd.func27, Tryd.ntmps27
  go_wp2
  refine bodyPost_ret (v := bar2 x y) (by simp [results, Tryd.results27, go_sem]) rfl ⟨rfl, ?_⟩
  (repeat (first | (with_reducible exact Below.refl _ _) | (with_reducible assumption) | (with_reducible refine Below.drew ?_) | ((with_reducible refine balloc ?_ _ ?_); · (first | (simp; done) | (simp; omega) | omega)) | ((with_reducible refine bset ?_ _ ?_); · (first | (simp; done) | (simp; omega) | omega)) | (with_reducible refine bdrewN _ ?_) | ((with_reducible refine bcall ?_ (by assumption) ?_); · (first | (simp; done) | (simp; omega) | omega))))

theorem slab_info : (Tryd.prog.info? 51).map (fun i => (i.zero, i.size, i.bytes)) = some (some (bar2 0 0), 2, 16) := by kernel_rfl

def eqP (p q : Int × Int) : Bool := decide (p = q)
theorem eqP_same (p : Int × Int) : eqP p p = true := by simp [eqP]

set_option maxHeartbeats 400000 in
theorem eqSlab_any (x y a b : Int) (w : World) :
    Calls Tryd.prog 31 #[bar2 x y, bar2 a b] w fun e w' => e = .returned (.bool (eqP (x, y) (a, b))) ∧ Below w.heap.size w w' := by
  by_cases h1 : (x == a) = true
  · obtain rfl : x = a := by simpa using h1
    by_cases h2 : (y == b) = true
    · obtain rfl : y = b := by simpa using h2
      go_enter Tryd.func31, Tryd.ntmps31
      go_wp2
      go_ret
      exact ⟨ret_bool (by simp [eqP]), by (repeat (first | (with_reducible exact Below.refl _ _) | (with_reducible assumption) | (with_reducible refine Below.drew ?_) | ((with_reducible refine balloc ?_ _ ?_); · (first | (simp; done) | (simp; omega) | omega)) | ((with_reducible refine bset ?_ _ ?_); · (first | (simp; done) | (simp; omega) | omega)) | (with_reducible refine bdrewN _ ?_) | ((with_reducible refine bcall ?_ (by assumption) ?_); · (first | (simp; done) | (simp; omega) | omega))))⟩
    · have h3 : (y == b) = false := by simpa using h2
      have h4 : (y != b) = true := by simpa using h2
      go_enter Tryd.func31, Tryd.ntmps31
      go_wp2
      go_ret
      exact ⟨ret_bool (by simp [eqP]; simpa using h2), by (repeat (first | (with_reducible exact Below.refl _ _) | (with_reducible assumption) | (with_reducible refine Below.drew ?_) | ((with_reducible refine balloc ?_ _ ?_); · (first | (simp; done) | (simp; omega) | omega)) | ((with_reducible refine bset ?_ _ ?_); · (first | (simp; done) | (simp; omega) | omega)) | (with_reducible refine bdrewN _ ?_) | ((with_reducible refine bcall ?_ (by assumption) ?_); · (first | (simp; done) | (simp; omega) | omega))))⟩
  · have h3 : (x == a) = false := by simpa using h1
    have h4 : (x != a) = true := by simpa using h1
    go_enter Tryd.func31, Tryd.ntmps31
    go_wp2
    go_ret
    exact ⟨ret_bool (by simp [eqP]; intro h; exact absurd h (by simpa using h1)), by (repeat (first | (with_reducible exact Below.refl _ _) | (with_reducible assumption) | (with_reducible refine Below.drew ?_) | ((with_reducible refine balloc ?_ _ ?_); · (first | (simp; done) | (simp; omega) | omega)) | ((with_reducible refine bset ?_ _ ?_); · (first | (simp; done) | (simp; omega) | omega)) | (with_reducible refine bdrewN _ ?_) | ((with_reducible refine bcall ?_ (by assumption) ?_); · (first | (simp; done) | (simp; omega) | omega))))⟩

theorem eqSlab_same (x y : Int) (w : World) : Calls Tryd.prog 31 #[bar2 x y, bar2 x y] w fun e w' => e = .returned (.bool true) ∧ Below w.heap.size w w' :=
  (eqSlab_any x y x y w).mono fun e w' ⟨he, hb⟩ => ⟨by rw [he, eqP_same], hb⟩

theorem pair_all {w : World} {b o : Nat} (l : List (Int × Int))
    (h : ∀ (i : Nat) (hi : i < l.length), w.cell? ⟨b, o + i * 2, none⟩ = some (.int .i64 (l[i]).1) ∧ w.cell? ⟨b, o + i * 2 + 1, none⟩ = some (.int .i64 (l[i]).2)) :
    ∀ (j : Nat) (u : Value), (pairCells l)[j]? = some u → w.cell? ⟨b, o + j, none⟩ = some u := by
  intro j u hu
  have hj : j < l.length * 2 := by have := (List.getElem?_eq_some_iff.1 hu).1; rw [length_pairCells] at this; exact this
  have hi : j / 2 < l.length := by omega
  obtain ⟨a0, a1⟩ := pairCells_at l (j / 2) hi
  obtain ⟨b0, b1⟩ := h (j / 2) hi
  rcases (show j = j / 2 * 2 ∨ j = j / 2 * 2 + 1 by omega) with e | e
  · rw [← e] at a0
    have e' : o + j = o + j / 2 * 2 := by omega
    rw [e', b0, ← a0, hu]
  · rw [← e] at a1
    have e' : o + j = o + j / 2 * 2 + 1 := by omega
    rw [e', b1, ← a1, hu]

theorem add_spot {b o k : Nat} : (⟨b, o, none⟩ : Addr).add k = ⟨b, o + k, none⟩ := by
  unfold Addr.add; split <;> simp_all

section
variable {H : Type} {enc : TypeId × Value → H} {P : Program} {w : World} {base : Nat} {spare : Nat → Bool} {held : Bool}
theorem open_pairs {t e ti : TypeId} {f0 f1 : Field} {A : Option Addr} {n c : Nat} {d : DataW H} {ps : List MemPlace} (ht : P.underlying t = some (.slice e)) (he : P.underlying e = some (.struct #[f0, f1])) (hC : P.cellsOf e = 2)
    (t0 : f0.type = ti) (t1 : f1.type = ti) (o0 : f0.offset = 0) (o1 : f1.offset = 1) (hi : P.underlying ti = some (.int .i64)) (ci : P.cellsOf ti = 1)
    (h : DataW.Trod enc P w base spare held t (.slice A n c) d ps) : ∃ xs : List (Int × Int), Rd w 2 A n (pairCells xs) := by
  obtain ⟨fuel, hf⟩ := h
  rcases open_slice ht hf with ⟨hcs, _⟩ | ⟨a, len, cap, m, k, D, Pl, hcs, _, hl, hm, hmm, _, hall⟩
  · simp [Value.cells] at hcs
    obtain ⟨rfl, rfl, rfl⟩ := hcs
    exact ⟨[], by simp [pairCells], fun h0 => absurd h0 (by omega)⟩
  · simp [Value.cells] at hcs
    obtain ⟨rfl, rfl, rfl⟩ := hcs
    have hlm : n ≤ m := by rw [hmm]; split <;> omega
    have each : ∀ i, i < n → ∃ q : Int × Int, w.cell? (a.add (i * 2)) = some (.int .i64 q.1) ∧ w.cell? ((a.add (i * 2)).add 1) = some (.int .i64 q.2) := by
      intro i hi'
      obtain ⟨cs', hc, hd⟩ := hall i (by omega)
      rw [hC] at hc
      obtain ⟨_, hlen, hat⟩ := World.cells?_some hc
      obtain ⟨y0, y1, k2, _, _, h0, h1⟩ := trod_struct2 he hd
      match cs', hlen with
      | [c0, c1], _ =>
        rw [t0, o0, ci] at h0
        rw [t1, o1, ci] at h1
        obtain ⟨p, e0, _, _⟩ := DataW.trod_int hi h0
        obtain ⟨tt, e1, _, _⟩ := DataW.trod_int hi h1
        simp at e0 e1
        subst e0 e1
        refine ⟨(p, tt), ?_, ?_⟩
        · have := hat 0 (by omega); simpa [Addr.add] using this
        · have := hat 1 (by omega); simpa using this
    obtain ⟨f, hfs⟩ := choose_lt each
    refine ⟨(List.range n).map f, by simp [length_pairCells], fun h0 => ?_⟩
    obtain ⟨z0, _⟩ := hfs 0 h0
    have hs := World.cell?_spot z0
    obtain ⟨b, o, sp⟩ := a
    have hsp : sp = none := by simpa [Addr.add] using hs
    subst hsp
    refine ⟨b, o, rfl, World.block_lt_of_cell? w _ (by simpa [Addr.add] using z0), pair_all _ fun i hi' => ?_⟩
    have hin : i < n := by simpa using hi'
    obtain ⟨q0, q1⟩ := hfs i hin
    simp only [add_spot] at q0 q1
    simp only [List.getElem_map, List.getElem_range]
    exact ⟨q0, q1⟩
end

theorem take_set2 (cs : List Value) (m : Nat) (a b : Value) (h : m + 2 ≤ cs.length) : ((cs.set m a).set (m + 1) b).take (m + 2) = cs.take m ++ [a, b] := by
  apply List.ext_getElem?
  intro j
  simp only [List.getElem?_take, List.getElem?_append, List.getElem?_set, List.length_set, List.length_take]
  by_cases h1 : j < m
  · rw [if_pos (by omega), if_neg (by omega), if_neg (by omega), if_pos (by omega), if_pos h1]
  · by_cases h2 : j = m
    · subst h2
      rw [if_pos (by omega), if_neg (by omega), if_pos rfl, if_pos (by omega), if_neg (by omega)]
      simp [Nat.min_eq_left (show j ≤ cs.length by omega)]
    · by_cases h3 : j = m + 1
      · subst h3
        rw [if_pos (by omega), if_pos rfl, if_pos (by omega), if_neg (by omega)]
        simp [Nat.min_eq_left (show m ≤ cs.length by omega)]
      · rw [if_neg (by omega), if_neg (by omega)]
        rw [Nat.min_eq_left (by omega)]
        simp; omega

set_option maxHeartbeats 400000 in
theorem szSlabS_any (A : Option Addr) (n c : Nat) (w : World) (hn : n ≤ 9223372036854775807) :
    Calls Tryd.prog 7 #[.slice A n c, .int .i64 1048576] w fun e w' => e = .returned (.int .i64 (if n ≤ 1048576 then 1048576 - (n : Int) else -1)) ∧ w = w' := by
  by_cases h : n ≤ 1048576
  · rw [if_pos h]
    go_enter Tryd.func7, Tryd.ntmps7
    go_wp2
    go_ret
    exact ⟨rfl, rfl⟩
  · rw [if_neg h]
    go_enter Tryd.func7, Tryd.ntmps7
    go_wp2
    go_ret
    exact ⟨rfl, rfl⟩

set_option maxRecDepth 100000 in
set_option maxHeartbeats 1000000 in
theorem toSlabS_any (A : Option Addr) (n c : Nat) (xs : List (Int × Int)) (w : World) (hr : Rd w 2 A n (pairCells xs)) (hn : n ≤ 1048576) :
    Calls Tryd.prog 9 #[.slice A n c] w fun e w' => ∃ g, e = .returned (.slice (some ⟨g, 0, none⟩) n n) ∧ w'.ownsRow w.heap.size 51 2 (.slice (some ⟨g, 0, none⟩) n n) n (pairCells xs) ∧ Below w.heap.size w w' := by
  obtain ⟨i0, hi, hz0, hz1, hz2⟩ := info_parts slab_info
  go_enter Tryd.func9, Tryd.ntmps9
  go_wp2_with (at_make; refine wpList_make_full _ rfl (.tmp 6) (.tmp 6) 26 rfl w.heap.size 51 i0 (bar2 0 0) 2 Tryd.underlying26 hi hz0 hz1 .i64 .i64 _ _ n rfl rfl rfl rfl ?b2 ?b3 (Nat.le_refl _) ?_)
  case b2 => rw [hz2]; omega
  case b3 => simp only [maxLen]; omega
  · intro w1 hown hgrow
    have hb1 : Below w.heap.size w w1 := (Below.refl _ _).grown hgrow (Nat.le_refl _) (fun k hk => by cases hk)
    have sw1 := hb1.size
    have hxl : xs.length = n := by have := hr.1; rw [length_pairCells] at this; omega
    have HXL := Lib.hid hxl
    clear hgrow hxl
    go_wp2
    go_loopw [4] (fun i wr => ∃ (k : Nat) (cs : List Value), k ≤ n ∧ i = .int .i64 k ∧ wr.ownsRow w.heap.size 51 2 (.slice (some ⟨w.heap.size, 0, none⟩) n n) n cs ∧ Hid (cs.take (k * 2) = pairCells (xs.take k)) ∧ Below w.heap.size w wr) (fun i _ => n - (intOf i).toNat)
    case atStart => exact ⟨0, _, Nat.zero_le _, rfl, hown, by simp [Hid, pairCells], hb1⟩
    case round =>
      clear hown
      obtain ⟨k, cs, hk, rfl, hown, hT, hB⟩ := hrel
      have sB := hB.size
      by_cases hlt : k < n
      · obtain ⟨b, o, rfl, hbl, hx, p1, p2⟩ := (hr.later hB (Nat.le_refl _)).pair hlt
        generalize hq : xs[k] = q at *
        obtain ⟨p, t⟩ := q
        simp only at p1 p2
        have HQ := Lib.hid hq
        clear hq
        go_wp2_with fail
        refine (toSlab_any _ _ _).mono ?_; rintro e w3 ⟨rfl, hb3⟩
        have s3 := hb3.size
        have own3 := own_later hown hb3 (Nat.le_refl _)
        have lcs : cs.length = n * 2 := own3.1
        have hgl := own3.lt w.heap.size (by simp [Value.ownBlock])
        have a0 := own3.cellAt (k * 2) (by omega)
        have a1 := own3.cellAt (k * 2 + 1) (by omega)
        rw [List.getElem?_eq_getElem (by omega)] at a0 a1
        have f0 := own3.frozenAt (k * 2)
        have f1 := own3.frozenAt (k * 2 + 1)
        have st := (own3.stored (k * 2) (.int .i64 p)).1.stored (k * 2 + 1) (.int .i64 t)
        have ST := Lib.hid st.1
        have HT := Lib.hid (take_set2 cs (k * 2) (.int .i64 p) (.int .i64 t) (by omega))
        have LCS := Lib.hid lcs
        generalize cs[k * 2] = v0 at a0
        generalize cs[k * 2 + 1] = v1 at a1
        clear st own3 hown p1 p2 lcs
        go_wp2
        go_roundw
        case rel =>
          refine ⟨k + 1, _, by omega, by go_num, ST.out, ?_, by (repeat (first | (with_reducible exact Below.refl _ _) | (with_reducible assumption) | (with_reducible refine Below.drew ?_) | ((with_reducible refine balloc ?_ _ ?_); · (first | (simp; done) | (simp; omega) | omega)) | ((with_reducible refine bset ?_ _ ?_); · (first | (simp; done) | (simp; omega) | omega)) | (with_reducible refine bdrewN _ ?_) | ((with_reducible refine bcall ?_ (by assumption) ?_); · (first | (simp; done) | (simp; omega) | omega))))⟩
          have h := hT.out
          have h2 := HT.out
          simp only [Hid]
          rw [show (k + 1) * 2 = k * 2 + 2 by omega, h2, h, List.take_succ_eq_append_getElem hx, HQ.out, pairCells_append]
          rfl
        case measure => simp [intOf]; omega
      · go_wp2
        go_ret
        have hkn : k = n := by omega
        subst hkn
        have h := hT.out
        rw [List.take_of_length_le (by rw [hown.1]; exact Nat.le_refl _), List.take_of_length_le (by rw [HXL.out]; exact Nat.le_refl _)] at h
        subst h
        exact ⟨w.heap.size, rfl, hown, hB⟩


theorem szSlabS_yes (A : Option Addr) (n c : Nat) (w : World) (hn : n ≤ 1048576) :
    Calls Tryd.prog 7 #[.slice A n c, .int .i64 1048576] w fun e w' => e = .returned (.int .i64 (1048576 - (n : Int))) ∧ w = w' :=
  (szSlabS_any A n c w (by omega)).mono fun e w' ⟨he, hw⟩ => ⟨by rw [he, if_pos hn], hw⟩
theorem szSlabS_no (A : Option Addr) (n c : Nat) (w : World) (hm : n ≤ maxLen) (hn : ¬ n ≤ 1048576) :
    Calls Tryd.prog 7 #[.slice A n c, .int .i64 1048576] w fun e w' => e = .returned (.int .i64 (-1)) ∧ w = w' :=
  (szSlabS_any A n c w (by unfold maxLen at hm; omega)).mono fun e w' ⟨he, hw⟩ => ⟨by rw [he, if_neg hn], hw⟩




set_option maxRecDepth 100000 in
set_option maxHeartbeats 1000000 in
theorem eqSlabS_any (A C : Option Addr) (n c m d : Nat) (xs ys : List (Int × Int)) (w : World) (ha : Rd w 2 A n (pairCells xs)) (hb : Rd w 2 C m (pairCells ys)) (hn : n ≤ 4000000000) (hm : m ≤ 4000000000) :
    Calls Tryd.prog 11 #[.slice A n c, .slice C m d] w fun e w' => e = .returned (.bool (decide (xs = ys))) ∧ Below w.heap.size w w' := by
  have lx : xs.length = n := by have := ha.1; rw [length_pairCells] at this; omega
  have ly : ys.length = m := by have := hb.1; rw [length_pairCells] at this; omega
  by_cases hnm : n = m
  · subst hnm
    have Lx := Lib.hid lx
    have Ly := Lib.hid ly
    clear lx ly
    go_enter Tryd.func11, Tryd.ntmps11
    go_wp2
    go_loopw [5] (fun i wr => ∃ k : Nat, k ≤ n ∧ i = .int .i64 k ∧ Hid (xs.take k = ys.take k) ∧ Below w.heap.size w wr) (fun i _ => n - (intOf i).toNat)
    case atStart => exact ⟨0, Nat.zero_le _, rfl, by simp [Hid], Below.refl _ _⟩
    case round =>
      obtain ⟨k, hk, rfl, hT, hB⟩ := hrel
      by_cases hlt : k < n
      · obtain ⟨b1, o1, rfl, l1, hx, p1, p2⟩ := (ha.later hB (Nat.le_refl _)).pair hlt
        obtain ⟨b2, o2, rfl, l2, hy, q1, q2⟩ := (hb.later hB (Nat.le_refl _)).pair hlt
        go_wp2
        go_still_tail 8, (by kernel_rfl)
        change wpList _ _ _ _ _ wr.drew
        have hB2 := hB.drew
        generalize wr.drew = w2 at hB2 ⊢
        have sB2 := hB2.size
        clear p1 p2 q1 q2 l1 l2 hB
        cases hd : eqP ((xs[k]).1, (xs[k]).2) ((ys[k]).1, (ys[k]).2)
        ·
          go_wp2_with fail
          refine (eqSlab_any _ _ _ _ _).mono ?_; rintro e w1 ⟨rfl, hb1⟩; have s1 := hb1.size; obtain ⟨hc1, hf1⟩ := bcell hb1
          go_wp2
          go_ret
          exact ⟨ret_bool (by simp; intro h; subst h; simp [eqP] at hd), by (repeat (first | (with_reducible exact Below.refl _ _) | (with_reducible assumption) | (with_reducible refine Below.drew ?_) | ((with_reducible refine balloc ?_ _ ?_); · (first | (simp; done) | (simp; omega) | omega)) | ((with_reducible refine bset ?_ _ ?_); · (first | (simp; done) | (simp; omega) | omega)) | (with_reducible refine bdrewN _ ?_) | ((with_reducible refine bcall ?_ (by assumption) ?_); · (first | (simp; done) | (simp; omega) | omega))))⟩
        ·
          go_wp2_with fail
          refine (eqSlab_any _ _ _ _ _).mono ?_; rintro e w1 ⟨rfl, hb1⟩; have s1 := hb1.size; obtain ⟨hc1, hf1⟩ := bcell hb1
          go_wp2
          go_roundw
          case rel => exact ⟨k + 1, by omega, by go_num, (by have h := hT.out; simp only [Hid]; rw [List.take_succ_eq_append_getElem hx, List.take_succ_eq_append_getElem hy, h]; simp [eqP] at hd; congr 2; exact Prod.ext hd.1 hd.2), by (repeat (first | (with_reducible exact Below.refl _ _) | (with_reducible assumption) | (with_reducible refine Below.drew ?_) | ((with_reducible refine balloc ?_ _ ?_); · (first | (simp; done) | (simp; omega) | omega)) | ((with_reducible refine bset ?_ _ ?_); · (first | (simp; done) | (simp; omega) | omega)) | (with_reducible refine bdrewN _ ?_) | ((with_reducible refine bcall ?_ (by assumption) ?_); · (first | (simp; done) | (simp; omega) | omega))))⟩
          case measure => simp [intOf]; omega
      · go_wp2
        go_ret
        have : k = n := by omega
        subst this
        have lx := Lx.out
        have ly := Ly.out
        exact ⟨ret_bool (by have h := hT.out; rw [List.take_of_length_le (by omega), List.take_of_length_le (by omega)] at h; simp [h]), hB⟩
  · have h1 : ((n : Int) == (m : Int)) = false := by simp; omega
    have h2 : ((n : Int) != (m : Int)) = true := by simp; omega
    go_enter Tryd.func11, Tryd.ntmps11
    go_wp2
    go_ret
    exact ⟨ret_bool (by simp; intro h; subst h; omega), Below.refl _ _⟩

theorem eqSlabS_same (A C : Option Addr) (n c m d : Nat) (xs : List (Int × Int)) (w : World) (ha : Rd w 2 A n (pairCells xs)) (hb : Rd w 2 C m (pairCells xs)) (hn : n ≤ 4000000000) (hm : m ≤ 4000000000) :
    Calls Tryd.prog 11 #[.slice A n c, .slice C m d] w fun e w' => e = .returned (.bool true) ∧ Below w.heap.size w w' :=
  (eqSlabS_any A C n c m d xs xs w ha hb hn hm).mono fun _ _ ⟨he, hB⟩ => ⟨by rw [he]; simp, hB⟩

theorem gbB_trans {w w' w'' : World} {row : Option Nat} (h : w.grownBy w' row) (k : w'.grownBy w'' row) : w.grownBy w'' row := ⟨k.os.trans h.os, k.tape.trans h.tape, k.output.trans h.output, Nat.le_trans h.size k.size, fun i hi hr => (k.block i (Nat.lt_of_lt_of_le hi h.size) hr).trans (h.block i hi hr)⟩

set_option maxRecDepth 100000 in
set_option maxHeartbeats 1000000 in
theorem markSlabS_g (A : Option Addr) (n c B : Nat) (k0 : Int) (xs : List (Int × Int)) (w : World) (ho : w.ownsRow B 51 2 (.slice A n c) n (pairCells xs)) (hn : n ≤ 4000000000) (h0 : 0 ≤ k0) (h1 : k0 ≤ 4000000000) :
    Calls Tryd.prog 14 #[.slice A n c, .int .i64 k0] w fun e w' => e = .returned (.int .i64 (k0 + 2 * (n : Int))) ∧ w'.ownsRow B 51 2 (.slice A n c) n (pairCells (marks2 k0 n)) ∧ Below B w w' ∧ w.grownBy w' (Value.slice A n c).ownBlock := by
  have lx : xs.length = n := by have := ho.1; rw [length_pairCells] at this; omega
  have Lx := Lib.hid lx
  clear lx
  go_enter Tryd.func14, Tryd.ntmps14
  go_wp2
  go_loopw [1, 5] (fun q i wr => ∃ (k : Nat) (l : List (Int × Int)), k ≤ n ∧ i = .int .i64 k ∧ q = .int .i64 (k0 + 2 * (k : Int)) ∧ l.length = n ∧ wr.ownsRow B 51 2 (.slice A n c) n (pairCells l) ∧ Hid (l.take k = (marks2 k0 n).take k) ∧ Below B w wr ∧ w.grownBy wr (Value.slice A n c).ownBlock) (fun _ i _ => n - (intOf i).toNat)
  case atStart => exact ⟨0, xs, Nat.zero_le _, rfl, by simp, Lx.out, ho, by simp [Hid], Below.refl _ _, World.grownBy.refl _ _⟩
  case round =>
    obtain ⟨k, l, hk, rfl, rfl, hl, hown, hT, hB, hG⟩ := hrel
    have Hl := Lib.hid hl
    clear hl
    by_cases hlt : k < n
    · obtain ⟨g, rfl, hg1, hg2⟩ := own_at hown (by omega)
      obtain ⟨b1, o1, e1, _, hx, p1, p2⟩ := (Rd.of_own hown).pair hlt
      simp only [Option.some.injEq, Addr.mk.injEq, and_true] at e1
      obtain ⟨rfl, rfl⟩ := e1
      have f1 := hown.frozenAt (k * 2)
      have f2 := hown.frozenAt (k * 2 + 1)
      have sa := hown.stored (k * 2) (.int .i64 (k0 + 2 * (k : Int)))
      have st1 := sa.1
      have sb := st1.stored (k * 2 + 1) (.int .i64 (k0 + 2 * (k : Int) + 1))
      have st2 := sb.1
      have SG := Lib.hid (gbB_trans (gbB_trans hG sa.2) sb.2)
      rw [set_pairCells _ _ hx] at st2
      have ST := Lib.hid st2
      clear st1 st2 sa sb hG
      simp only [Nat.zero_add] at p1 p2
      go_wp2
      go_roundw
      case rel =>
        refine ⟨k + 1, l.set k (k0 + 2 * (k : Int), k0 + 2 * (k : Int) + 1), by omega, by go_num, ?_, by simpa using Hl.out, by simpa using ST.out, ?_, by (repeat (first | (with_reducible exact Below.refl _ _) | (with_reducible assumption) | (with_reducible refine Below.drew ?_) | ((with_reducible refine balloc ?_ _ ?_); · (first | (simp; done) | (simp; omega) | omega)) | ((with_reducible refine bset ?_ _ ?_); · (first | (simp; done) | (simp; omega) | omega)) | (with_reducible refine bdrewN _ ?_) | ((with_reducible refine bcall ?_ (by assumption) ?_); · (first | (simp; done) | (simp; omega) | omega)))), SG.out⟩
        · congr 1; omega
        · have h := hT.out
          have hm : k < (marks2 k0 n).length := by rw [length_marks2]; exact hlt
          simp only [Hid]
          rw [List.take_succ_eq_append_getElem (by simpa using hx), List.take_succ_eq_append_getElem hm, List.take_set_of_le (Nat.le_refl k), h, marks2_at]
          simp
      case measure => simp [intOf]; omega
    · go_wp2
      go_ret
      have : k = n := by omega
      subst this
      have h := hT.out
      rw [List.take_of_length_le (by rw [Hl.out]; omega), List.take_of_length_le (by rw [length_marks2]; omega)] at h
      subst h
      exact ⟨rfl, hown, hB, hG⟩

theorem markSlabS_any (A : Option Addr) (n c B : Nat) (k0 : Int) (xs : List (Int × Int)) (w : World) (ho : w.ownsRow B 51 2 (.slice A n c) n (pairCells xs)) (hn : n ≤ 4000000000) (h0 : 0 ≤ k0) (h1 : k0 ≤ 4000000000) :
    Calls Tryd.prog 14 #[.slice A n c, .int .i64 k0] w fun e w' => e = .returned (.int .i64 (k0 + 2 * (n : Int))) ∧ w'.ownsRow B 51 2 (.slice A n c) n (pairCells (marks2 k0 n)) ∧ Below B w w' :=
  (markSlabS_g A n c B k0 xs w ho hn h0 h1).mono fun _ _ ⟨he, ho, hb, _⟩ => ⟨he, ho, hb⟩

set_option maxRecDepth 100000 in
set_option maxHeartbeats 1000000 in
theorem heldSlabS_any (A : Option Addr) (n c : Nat) (k0 : Int) (w : World) (ho : Rd w 2 A n (pairCells (marks2 k0 n))) (hn : n ≤ 4000000000) (h0 : 0 ≤ k0) (h1 : k0 ≤ 4000000000) :
    Calls Tryd.prog 15 #[.slice A n c, .int .i64 k0] w fun e w' => e = .returned (.int .i64 (k0 + 2 * (n : Int))) ∧ w = w' := by
  go_enter Tryd.func15, Tryd.ntmps15
  go_wp2
  go_loop [1, 5] (fun q i => ∃ k : Nat, k ≤ n ∧ i = .int .i64 k ∧ q = .int .i64 (k0 + 2 * (k : Int))) (fun _ i => n - (intOf i).toNat)
  case atStart => exact ⟨0, Nat.zero_le _, rfl, by simp⟩
  case round =>
    obtain ⟨k, hk, rfl, rfl⟩ := hrel
    by_cases hlt : k < n
    · obtain ⟨b1, o1, rfl, l1, hx, p1, p2⟩ := ho.pair hlt
      rw [marks2_at] at p1 p2
      go_wp2
      go_round
      case rel => exact ⟨k + 1, by omega, by go_num, by congr 1; omega⟩
      case measure => simp [intOf]; omega
    · go_wp2
      go_ret
      have : k = n := by omega
      subst this
      exact ⟨rfl, rfl⟩

end Go.Proofs.YtghlgmbekgfmnabDoor
