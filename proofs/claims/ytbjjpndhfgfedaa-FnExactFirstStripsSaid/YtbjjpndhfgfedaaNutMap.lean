/-
  Words for the map of the nuts; contract: allNuts of the program.
-/
import Derived.Test.YtbjjpndhfgfedaaBarOf
import Derived.Maps.RangeWalk
import Derived.Maps.OwnSet
import Derived.Maps.Views
import Derived.DeepKeys4
namespace Go.Proofs.Ytbjjpndhfgfedaa
open Go.RowKit Go.Maps

/-- a value of the struct of a nut -/
abbrev nut3 (x y z : Int) : Value := .agg #[.int .i64 x, .int .i64 y, .int .i64 z]
/-- what such a key reads as -/
def lit3 (k : Nat × Nat × Nat) : Lit := .string (keyBytes [.int .i64 k.1, .int .i64 k.2.1, .int .i64 k.2.2])
theorem nutLaidOut : laidOutB Try.prog = true := by kernel_rfl
theorem nutWide : (match Try.prog.underlying 87 with | some (.array _ _) | some (.struct _) => true | _ => false) = true := by kernel_rfl
theorem nutLaw : Keyed Try.prog 87 := Keyed.of_law (deep_law_laid nutLaidOut (m := 2) (by omega) (of_decide_eq_true (by kernel_rfl)) (by kernel_rfl) nutWide)
theorem nutKeyType : Try.prog.keyType 87 = true := by kernel_rfl
theorem nutCells : Try.prog.cellsOf 87 = 3 := by kernel_rfl
theorem nutKey (x y z : Nat) (hx : x ≤ 1000000) (hy : y ≤ 1000000) (hz : z ≤ 1000000) : keyOf Try.prog 87 (nut3 x y z) = some (lit3 (x, y, z)) := by
  have w1 : (Lit.int .i64 (x : Int)).wf = true := WalkArith.wf_i64 (by omega)
  have w2 : (Lit.int .i64 (y : Int)).wf = true := WalkArith.wf_i64 (by omega)
  have w3 : (Lit.int .i64 (z : Int)).wf = true := WalkArith.wf_i64 (by omega)
  obtain ⟨m, hm⟩ : ∃ m, Try.prog.types.size + 1 = m + 2 := ⟨Try.prog.types.size - 1, by have : 2 ≤ Try.prog.types.size := of_decide_eq_true (by kernel_rfl); omega⟩
  have hi := Try.underlying3
  have ci : Try.prog.cellsOf 3 = 1 := by kernel_rfl
  unfold keyOf
  rw [Try.underlying87]
  simp only [nutKeyType, Value.formed, Try.underlying87, nutCells, hm]
  simp [Program.keyLits, Try.underlying87, nutCells, hi, ci, w1, w2, w3, Value.cells, lit3]

abbrev Nut := Nat × Nat × Nat
def ok3 (k : Nut) : Prop := k.1 ≤ 1000000 ∧ k.2.1 ≤ 1000000 ∧ k.2.2 ≤ 1000000
theorem nutKey' {k : Nut} (h : ok3 k) : keyOf Try.prog 87 (nut3 k.1 k.2.1 k.2.2) = some (lit3 k) := nutKey _ _ _ h.1 h.2.1 h.2.2
theorem lit3_inj {a b : Nut} (ha : ok3 a) (hb : ok3 b) (h : lit3 a = lit3 b) : a = b := by
  have e := nutLaw.inj (nutKey' ha) (by rw [h]; exact nutKey' hb)
  obtain ⟨a1, a2, a3⟩ := a
  obtain ⟨b1, b2, b3⟩ := b
  simp at e
  obtain ⟨e1, e2, e3⟩ := e
  have f1 : a1 = b1 := by omega
  have f2 : a2 = b2 := by omega
  have f3 : a3 = b3 := by omega
  rw [f1, f2, f3]
theorem lit3_key (k : Nut) : WideAt.IsKeyLit (lit3 k) := by trivial
theorem lit3_same (k : Nut) : (lit3 k).sameKey (lit3 k) = true := by simp [lit3, Lit.sameKey]

/-- D is the set S -/
def SetOf (D : DataW Unit) (S : List Nut) : Prop := S.Nodup ∧ Maps.size D = S.length ∧ (∀ k ∈ S, ok3 k) ∧ ∀ kl, Maps.has D kl = true ↔ ∃ k ∈ S, lit3 k = kl
theorem SetOf.empty : SetOf (.map []) [] := ⟨List.nodup_nil, rfl, by simp, fun kl => by simp [Maps.has]⟩
theorem SetOf.put {D : DataW Unit} {S : List Nut} (h : SetOf D S) (ht : Tidy D) {k : Nut} (hk : ok3 k) (hn : k ∉ S) (d : DataW Unit) : SetOf (D.put (lit3 k) d) (S ++ [k]) := by
  obtain ⟨h1, h2, h3, h4⟩ := h
  have hno : Maps.has D (lit3 k) = false := by
    rw [← Bool.not_eq_true]
    intro e
    obtain ⟨k', hk', e'⟩ := (h4 _).1 e
    exact hn (lit3_inj (h3 _ hk') hk e' ▸ hk')
  refine ⟨List.nodup_append.2 ⟨h1, by simp, fun a ha b hb e => by rw [List.mem_singleton] at hb; subst hb; subst e; exact hn ha⟩, ?_, ?_, ?_⟩
  · rw [size_put ht, hno]
    simp [h2]
  · intro a ha
    rcases List.mem_append.1 ha with ha | ha
    · exact h3 a ha
    · simp at ha; subst ha; exact hk
  · intro kl
    by_cases e : kl = lit3 k
    · subst e
      rw [has_put_same ht.isMap (lit3_key k)]
      simp
    · rw [has_put_other e, h4]
      constructor
      · rintro ⟨a, ha, rfl⟩
        exact ⟨a, by simp [ha], rfl⟩
      · rintro ⟨a, ha, rfl⟩
        rcases List.mem_append.1 ha with ha | ha
        · exact ⟨a, ha, rfl⟩
        · simp at ha; subst ha; exact absurd rfl e
theorem SetOf.del {D : DataW Unit} {S : List Nut} (h : SetOf D S) (ht : Tidy D) {k : Nut} (hk : k ∈ S) : SetOf (D.del (lit3 k)) (S.erase k) := by
  obtain ⟨h1, h2, h3, h4⟩ := h
  have hyes : Maps.has D (lit3 k) = true := (h4 _).2 ⟨k, hk, rfl⟩
  refine ⟨h1.erase k, ?_, fun a ha => h3 a (List.mem_of_mem_erase ha), ?_⟩
  · have := size_del (k := lit3 k) ht
    rw [hyes, if_pos rfl] at this
    rw [List.length_erase_of_mem hk]
    omega
  · intro kl
    by_cases e : kl = lit3 k
    · subst e
      rw [has_del_same]
      constructor
      · intro q; cases q
      · rintro ⟨a, ha, e⟩
        have := lit3_inj (h3 a (List.mem_of_mem_erase ha)) (h3 k hk) e
        subst this
        exact absurd ha (List.Nodup.not_mem_erase h1)
    · rw [has_del_other e, h4]
      constructor
      · rintro ⟨a, ha, rfl⟩
        exact ⟨a, (List.mem_erase_of_ne (fun q => e (by rw [q]))).2 ha, rfl⟩
      · rintro ⟨a, ha, rfl⟩
        exact ⟨a, List.mem_of_mem_erase ha, rfl⟩

/-- the nuts of a square, of a row's first squares, of the first rows -/
def cellN (x y i : Nat) : List Nut := (List.range i).map fun j => (x, y, j)
def rowN (ss : List ByteArray) (y m : Nat) : List Nut := (List.range m).flatMap fun x => cellN x y (nutV ss y x)
def allN (ss : List ByteArray) (W k : Nat) : List Nut := (List.range k).flatMap fun y => rowN ss y W
theorem cellN_succ (x y i : Nat) : cellN x y (i + 1) = cellN x y i ++ [(x, y, i)] := by simp [cellN, List.range_succ]
theorem rowN_succ (ss : List ByteArray) (y m : Nat) : rowN ss y (m + 1) = rowN ss y m ++ cellN m y (nutV ss y m) := by simp [rowN, List.range_succ]
theorem allN_succ (ss : List ByteArray) (W k : Nat) : allN ss W (k + 1) = allN ss W k ++ rowN ss k W := by simp [allN, List.range_succ]
theorem mem_cellN {x y i : Nat} {k : Nut} : k ∈ cellN x y i ↔ k.1 = x ∧ k.2.1 = y ∧ k.2.2 < i := by
  obtain ⟨a, b, c⟩ := k
  simp only [cellN, List.mem_map, List.mem_range, Prod.mk.injEq]
  constructor
  · rintro ⟨j, hj, rfl, rfl, rfl⟩; exact ⟨rfl, rfl, hj⟩
  · rintro ⟨rfl, rfl, h⟩; exact ⟨c, h, rfl, rfl, rfl⟩
theorem mem_rowN {ss : List ByteArray} {y m : Nat} {k : Nut} : k ∈ rowN ss y m ↔ k.1 < m ∧ k.2.1 = y ∧ k.2.2 < nutV ss y k.1 := by
  simp only [rowN, List.mem_flatMap, List.mem_range, mem_cellN]
  constructor
  · rintro ⟨x, hx, rfl, rfl, h⟩; exact ⟨hx, rfl, h⟩
  · rintro ⟨h1, rfl, h2⟩; exact ⟨k.1, h1, rfl, rfl, h2⟩
theorem mem_allN {ss : List ByteArray} {W n : Nat} {k : Nut} : k ∈ allN ss W n ↔ k.2.1 < n ∧ k.1 < W ∧ k.2.2 < nutV ss k.2.1 k.1 := by
  simp only [allN, List.mem_flatMap, List.mem_range, mem_rowN]
  constructor
  · rintro ⟨y, hy, h1, rfl, h2⟩; exact ⟨hy, h1, h2⟩
  · rintro ⟨h1, h2, h3⟩; exact ⟨k.2.1, h1, h2, rfl, h3⟩

/-- block b is the set S -/
def SetAt (w : World) (b : Nat) (S : List Nut) : Prop := ∃ D : DataW Unit, w.ownsMap Try.prog 87 (plainElem Try.prog 4) b S.length D ∧ SetOf D S

set_option maxRecDepth 100000 in
set_option maxHeartbeats 4000000 in
theorem allNuts_any (A : Option Addr) (n c W : Nat) (ss : List ByteArray) (w : World) (hr : Rd w 1 A n (strCells ss)) (hb : NB ss W n) :
    Calls Try.prog 72 #[.slice A n c] w fun e w' => e = .returned (.map (some w.heap.size)) ∧ SetAt w' w.heap.size (allN ss W n) ∧ (allN ss W n).length ≤ 1000 ∧ Below w.heap.size w w' := by
  have hmm := @run_makeMap Try.prog
  obtain ⟨b, o, rfl, hbl, _, _, _, _⟩ := hr.nut0 hb
  have hn8 := hb.h8
  have hW8 := hb.w8
  go_enter Try.func72, Try.ntmps72
  go_wp2
  go_loopw [10] (fun i wr => ∃ k : Nat, k ≤ n ∧ i = .int .i64 k ∧ SetAt wr w.heap.size (allN ss W k) ∧ Hid ((allN ss W k).length ≤ 100 * k) ∧ Below w.heap.size w wr) (fun i _ => n - (intOf i).toNat)
  case atStart => exact ⟨0, Nat.zero_le _, rfl, ⟨_, World.ownsMap_made _ _ _ _, SetOf.empty⟩, Nat.zero_le _, by (repeat (first | (with_reducible exact Below.refl _ _) | (with_reducible assumption) | (with_reducible refine Below.drew ?_) | ((with_reducible refine balloc ?_ _ ?_); · (first | (simp; done) | (simp; omega) | omega)) | ((with_reducible refine bset ?_ _ ?_); · (first | (simp; done) | (simp; omega) | omega)) | (with_reducible refine bdrewN _ ?_) | ((with_reducible refine bcall ?_ (by assumption) ?_); · (first | (simp; done) | (simp; omega) | omega))))⟩
  case round =>
    obtain ⟨y, hy, rfl, hS, hL, hB⟩ := hrel
    by_cases hlt : y < n
    · obtain ⟨s, p, hs⟩ : ∃ s : ByteArray, wr.cell? ⟨b, o + y, none⟩ = some (.string s) ∧ s.size = W := by
        obtain ⟨s, p, hz, _⟩ := (hr.later hB (Nat.le_refl _)).nut hb hlt (show 0 < W from hb.w1)
        exact ⟨s, p, hz⟩
      subst hs
      obtain ⟨wo, rfl⟩ : ∃ wo : World, wo = wr := ⟨_, rfl⟩
      go_wp2
      go_loopw [18] (fun i wr => ∃ x : Nat, x ≤ s.size ∧ i = .int .i64 x ∧ SetAt wr w.heap.size (allN ss s.size y ++ rowN ss y x) ∧ Hid ((allN ss s.size y ++ rowN ss y x).length ≤ 100 * y + 10 * x) ∧ Below w.heap.size w wr) (fun i _ => s.size - (intOf i).toNat)
      case atStart => exact ⟨0, Nat.zero_le _, rfl, by simpa [rowN] using hS, by simpa [rowN, Hid] using hL, hB⟩
      case round =>
        clear hS hB hL p
        obtain ⟨x, hx, rfl, hS, hL, hB⟩ := hrel
        by_cases hlx : x < s.size
        · have hv9 := hb.val_le hlt hlx
          go_wp2_with fail
          refine (nutsAt_any _ _ _ _ _ _ ss _ (hr.later hB (Nat.le_refl _)) hb hlx hlt).mono ?_; rintro e w1 ⟨rfl, rfl⟩
          obtain ⟨wo2, rfl⟩ : ∃ wo2 : World, wo2 = wr := ⟨_, rfl⟩
          go_wp2
          go_loopw [25] (fun i wr => ∃ j : Nat, j ≤ nutV ss y x ∧ i = .int .i64 j ∧ SetAt wr w.heap.size (allN ss s.size y ++ rowN ss y x ++ cellN x y j) ∧ Hid ((allN ss s.size y ++ rowN ss y x ++ cellN x y j).length ≤ 100 * y + 10 * x + j) ∧ Below w.heap.size w wr) (fun i _ => nutV ss y x - (intOf i).toNat)
          case atStart => exact ⟨0, Nat.zero_le _, rfl, by simpa [cellN] using hS, by simpa [cellN, Hid] using hL, hB⟩
          case round =>
            clear hS hB hL
            obtain ⟨j, hj, rfl, hS, hL, hB⟩ := hrel
            by_cases hlj : j < nutV ss y x
            · obtain ⟨D, hown, hSet⟩ := hS
              have hkey := nutKey x y j (by omega) (by omega) (by omega)
              have hSet2 := hSet.put (hown.tidy nutLaw) (k := (x, y, j)) ⟨by show x ≤ _; omega, by show y ≤ _; omega, by show j ≤ _; omega⟩ (by
                simp only [List.mem_append, mem_allN, mem_rowN, mem_cellN]
                omega) (.lit (.bool true))
              have hlen : (allN ss s.size y ++ rowN ss y x ++ cellN x y j).length < maxLen := by have := hL.out; simp only [maxLen]; omega
              have HS2 := Lib.hid hSet2
              have eL : (allN ss s.size y ++ rowN ss y x ++ cellN x y (j + 1)) = (allN ss s.size y ++ rowN ss y x ++ cellN x y j) ++ [(x, y, j)] := by rw [cellN_succ, ← List.append_assoc]
              have HE := Lib.hid eL
              clear hSet hSet2 eL
              have HL2 : Hid ((allN ss s.size y ++ rowN ss y x ++ cellN x y (j + 1)).length ≤ 100 * y + 10 * x + (j + 1)) := by
                have := hL.out
                simp only [Hid]
                rw [HE.out, List.length_append]
                simp only [List.length_cons, List.length_nil]
                omega
              go_wp2_with (at_mapUpdate; refine wpList_mapUpdate_own _ rfl _ _ _ 83 rfl 87 4 nutLaw Try.underlying83 _ w.heap.size _ _ rfl hown hlen _ _ _ rfl rfl hkey (.lit (.bool true)) [] (plainElem_bool Try.underlying4 true) ?_; intro w1 hown1 hgrow1)
              go_roundw
              case rel =>
                refine ⟨j + 1, by omega, by go_num, ⟨_, ?_, by rw [HE.out]; exact HS2.out⟩, HL2, hB.grown hgrow1 hB.size (fun q hq => by cases hq; exact Nat.le_refl _)⟩
                rw [HE.out]
                exact hown1.mono (by simp; omega)
              case measure => simp [intOf]; omega
            · have : j = nutV ss y x := by omega
              subst this
              have HE : Hid (allN ss s.size y ++ rowN ss y (x + 1) = allN ss s.size y ++ rowN ss y x ++ cellN x y (nutV ss y x)) := by simp only [Hid]; rw [rowN_succ, List.append_assoc]
              go_wp2
              go_roundw
              case rel => exact ⟨x + 1, by omega, by go_num, by rw [HE.out]; exact hS, by have := hL.out; simp only [Hid]; rw [HE.out]; omega, hB⟩
              case measure => simp [intOf]; omega
        · have : x = s.size := by omega
          subst this
          have HE := Lib.hid (allN_succ ss s.size y)
          go_wp2
          go_roundw
          case rel => exact ⟨y + 1, by omega, by go_num, by rw [HE.out]; exact hS, by have := hL.out; simp only [Hid]; rw [HE.out]; omega, hB⟩
          case measure => simp [intOf]; omega
    · have : y = n := by omega
      subst this
      go_wp2
      go_ret
      exact ⟨rfl, hS, by have := hL.out; omega, hB⟩

end Go.Proofs.Ytbjjpndhfgfedaa
